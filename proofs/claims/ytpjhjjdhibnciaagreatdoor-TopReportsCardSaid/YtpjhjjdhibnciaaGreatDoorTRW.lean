/- The walk of TopReports: the plain terms find it true, leaf by leaf. -/
import Derived.Test.YtpjhjjdhibnciaaGreatDoorTRW0
import Derived.Test.YtpjhjjdhibnciaaGreatDoorTRW1
namespace Go.Proofs.YtpjhjjdhibnciaaGreatDoor.topReports
open Go.ChangeShapes Go.WideShapes Go.ChangeAt Go.RowKit
set_option maxRecDepth 1000000
set_option linter.unusedVariables false
theorem walk (a0 : Int) (a1 : Int) (w : World) (b0 : -9223372036854775808 ≤ a0 ∧ a0 ≤ 9223372036854775807) (b1 : -9223372036854775808 ≤ a1 ∧ a1 ≤ 9223372036854775807) :
    Calls Tryz.prog 9 #[.int .i64 a0, .int .i64 a1] w fun e w' => e = .returned (.bool true) ∧ Below w.heap.size w w' := by
  letI : Toks := ⟨fun k => if k = 0 then a0 else if k = 1 then a1 else if k = 100 then a0 % 3 else if k = 101 then a1 % 9 else 0⟩
  have fin : ∀ (l : List (Nat × Nat × Nat × Nat × Nat)), at_ l = true → (∀ q ∈ l, (-9223372036854775808 ≤ Toks.A q.1 ∧ Toks.A q.1 ≤ 9223372036854775807) ∧ 1 ≤ (q.2.1 : Int) ∧ (q.2.1 : Int) ≤ 9223372036854775807 ∧ ∀ ρ : Ren, VR ρ (caseV q.2.2.1 (q.2.2.2.1, q.2.2.2.2)) (.int .i64 (Toks.A q.1 % (q.2.1 : Int)))) →
      Calls Tryz.prog 9 #[.int .i64 a0, .int .i64 a1] w fun e w' => e = .returned (.bool true) ∧ Below w.heap.size w w' := by
    intro l hc hok
    refine top_plain (okF := cfg l) tabAll_ok ⟨overW_ok (tabOf l) (fun q hq => ?_) fun q hq => ?_, summAll_ok, summAll_mono⟩ mixed 3000 60 w ?_ hc
    · obtain ⟨x, hx, rfl⟩ := List.mem_map.1 hq
      exact (hok x hx).1
    · obtain ⟨x, hx, rfl⟩ := List.mem_map.1 hq
      exact (hok x hx).2
    · exact .cons (rfl) (.cons (rfl) .nil)
  obtain ⟨c0, h0, e0⟩ := cover_get (t := 100) (n := 3) (l := ([(0, 0), (1, 1), (2, 2)] : List (Nat × Nat))) (by kernel_rfl) (a := a0) (by decide) rfl
  simp only [List.mem_cons, List.not_mem_nil, or_false] at h0
  rcases h0 with rfl | rfl | rfl
  · skip
    obtain ⟨c1, h1, e1⟩ := cover_get (t := 101) (n := 9) (l := ([(0, 8)] : List (Nat × Nat))) (by kernel_rfl) (a := a1) (by decide) rfl
    refine fin _ (List.all_eq_true.1 all0 c1 h1) ?_
    intro q hq
    simp only [List.mem_cons, List.not_mem_nil, or_false] at hq
    rcases hq with rfl | rfl
    · exact ⟨b0, (by show (1 : Int) ≤ 3; decide), (by show (3 : Int) ≤ 9223372036854775807; decide), e0⟩
    · exact ⟨b1, (by show (1 : Int) ≤ 9; decide), (by show (9 : Int) ≤ 9223372036854775807; decide), e1⟩
  · skip
    obtain ⟨c1, h1, e1⟩ := cover_get (t := 101) (n := 9) (l := ([(0, 0), (1, 1), (2, 2), (3, 3), (4, 4), (5, 8)] : List (Nat × Nat))) (by kernel_rfl) (a := a1) (by decide) rfl
    rw [show ([(0, 0), (1, 1), (2, 2), (3, 3), (4, 4), (5, 8)] : List (Nat × Nat)) = ([(0, 0), (1, 1), (2, 2)] : List (Nat × Nat)) ++ (([(3, 3), (4, 4), (5, 8)] : List (Nat × Nat))) from by kernel_rfl] at h1
    rcases List.mem_append.1 h1 with h1 | h1
    · skip
      refine fin _ (List.all_eq_true.1 all1 c1 h1) ?_
      intro q hq
      simp only [List.mem_cons, List.not_mem_nil, or_false] at hq
      rcases hq with rfl | rfl
      · exact ⟨b0, (by show (1 : Int) ≤ 3; decide), (by show (3 : Int) ≤ 9223372036854775807; decide), e0⟩
      · exact ⟨b1, (by show (1 : Int) ≤ 9; decide), (by show (9 : Int) ≤ 9223372036854775807; decide), e1⟩
    refine fin _ (List.all_eq_true.1 all2 c1 h1) ?_
    intro q hq
    simp only [List.mem_cons, List.not_mem_nil, or_false] at hq
    rcases hq with rfl | rfl
    · exact ⟨b0, (by show (1 : Int) ≤ 3; decide), (by show (3 : Int) ≤ 9223372036854775807; decide), e0⟩
    · exact ⟨b1, (by show (1 : Int) ≤ 9; decide), (by show (9 : Int) ≤ 9223372036854775807; decide), e1⟩
  · skip
    obtain ⟨c1, h1, e1⟩ := cover_get (t := 101) (n := 9) (l := ([(0, 8)] : List (Nat × Nat))) (by kernel_rfl) (a := a1) (by decide) rfl
    refine fin _ (List.all_eq_true.1 all3 c1 h1) ?_
    intro q hq
    simp only [List.mem_cons, List.not_mem_nil, or_false] at hq
    rcases hq with rfl | rfl
    · exact ⟨b0, (by show (1 : Int) ≤ 3; decide), (by show (3 : Int) ≤ 9223372036854775807; decide), e0⟩
    · exact ⟨b1, (by show (1 : Int) ≤ 9; decide), (by show (9 : Int) ≤ 9223372036854775807; decide), e1⟩
end Go.Proofs.YtpjhjjdhibnciaaGreatDoor.topReports
