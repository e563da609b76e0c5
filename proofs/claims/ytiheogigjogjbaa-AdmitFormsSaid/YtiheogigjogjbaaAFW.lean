/- The walk of AdmitForms: the plain terms find it true, leaf by leaf. -/
import Derived.Test.YtiheogigjogjbaaAFW0
namespace Go.Proofs.Ytiheogigjogjbaa.admitForms
open Go.ChangeShapes Go.WideShapes Go.ChangeAt Go.RowKit
set_option maxRecDepth 1000000
set_option linter.unusedVariables false
theorem walk (a0 : Int) (a1 : Int) (a2 : Int) (w : World) (b0 : -9223372036854775808 ≤ a0 ∧ a0 ≤ 9223372036854775807) (b1 : -9223372036854775808 ≤ a1 ∧ a1 ≤ 9223372036854775807) (b2 : -9223372036854775808 ≤ a2 ∧ a2 ≤ 9223372036854775807) :
    Calls Try.prog 5 #[.int .i64 a0, .int .i64 a1, .int .i64 a2] w fun e w' => e = .returned (.bool true) ∧ Below w.heap.size w w' := by
  letI : Toks := ⟨fun k => if k = 0 then a0 else if k = 1 then a1 else if k = 2 then a2 else if k = 100 then a0 % 25 else if k = 101 then a1 % 100 else if k = 102 then a2 % 100 else 0⟩
  have fin : ∀ (l : List (Nat × Nat × Nat × Nat × Nat)), at_ l = true → (∀ q ∈ l, (-9223372036854775808 ≤ Toks.A q.1 ∧ Toks.A q.1 ≤ 9223372036854775807) ∧ 1 ≤ (q.2.1 : Int) ∧ (q.2.1 : Int) ≤ 9223372036854775807 ∧ ∀ ρ : Ren, VR ρ (caseT q.2.2.1 (q.2.2.2.1, q.2.2.2.2)) (.int .i64 (Toks.A q.1 % (q.2.1 : Int)))) →
      Calls Try.prog 5 #[.int .i64 a0, .int .i64 a1, .int .i64 a2] w fun e w' => e = .returned (.bool true) ∧ Below w.heap.size w w' := by
    intro l hc hok
    refine top_plain (okF := cfg l) tabAll_ok ⟨overW_ok (tabOf l) (fun q hq => ?_) fun q hq => ?_, summT_ok, summT_mono⟩ mixed 3000 60 w ?_ hc
    · obtain ⟨x, hx, rfl⟩ := List.mem_map.1 hq
      exact (hok x hx).1
    · obtain ⟨x, hx, rfl⟩ := List.mem_map.1 hq
      exact (hok x hx).2
    · exact .cons (rfl) (.cons (rfl) (.cons (rfl) .nil))
  obtain ⟨c0, h0, e0⟩ := cover_getT (t := 100) (n := 25) (l := ([(0, 0), (1, 24)] : List (Nat × Nat))) (by kernel_rfl) (a := a0) (by decide) rfl
  simp only [List.mem_cons, List.not_mem_nil, or_false] at h0
  rcases h0 with rfl | rfl
  · skip
    obtain ⟨c1, h1, e1⟩ := cover_getT (t := 101) (n := 100) (l := ([(0, 0), (1, 99)] : List (Nat × Nat))) (by kernel_rfl) (a := a1) (by decide) rfl
    simp only [List.mem_cons, List.not_mem_nil, or_false] at h1
    rcases h1 with rfl | rfl
    · skip
      obtain ⟨c2, h2, e2⟩ := cover_getT (t := 102) (n := 100) (l := ([(0, 99)] : List (Nat × Nat))) (by kernel_rfl) (a := a2) (by decide) rfl
      refine fin _ (List.all_eq_true.1 all0 c2 h2) ?_
      intro q hq
      simp only [List.mem_cons, List.not_mem_nil, or_false] at hq
      rcases hq with rfl | rfl | rfl
      · exact ⟨b0, (by show (1 : Int) ≤ 25; decide), (by show (25 : Int) ≤ 9223372036854775807; decide), e0⟩
      · exact ⟨b1, (by show (1 : Int) ≤ 100; decide), (by show (100 : Int) ≤ 9223372036854775807; decide), e1⟩
      · exact ⟨b2, (by show (1 : Int) ≤ 100; decide), (by show (100 : Int) ≤ 9223372036854775807; decide), e2⟩
    · skip
      obtain ⟨c2, h2, e2⟩ := cover_getT (t := 102) (n := 100) (l := ([(0, 99)] : List (Nat × Nat))) (by kernel_rfl) (a := a2) (by decide) rfl
      refine fin _ (List.all_eq_true.1 all1 c2 h2) ?_
      intro q hq
      simp only [List.mem_cons, List.not_mem_nil, or_false] at hq
      rcases hq with rfl | rfl | rfl
      · exact ⟨b0, (by show (1 : Int) ≤ 25; decide), (by show (25 : Int) ≤ 9223372036854775807; decide), e0⟩
      · exact ⟨b1, (by show (1 : Int) ≤ 100; decide), (by show (100 : Int) ≤ 9223372036854775807; decide), e1⟩
      · exact ⟨b2, (by show (1 : Int) ≤ 100; decide), (by show (100 : Int) ≤ 9223372036854775807; decide), e2⟩
  · skip
    obtain ⟨c1, h1, e1⟩ := cover_getT (t := 101) (n := 100) (l := ([(0, 0), (1, 99)] : List (Nat × Nat))) (by kernel_rfl) (a := a1) (by decide) rfl
    simp only [List.mem_cons, List.not_mem_nil, or_false] at h1
    rcases h1 with rfl | rfl
    · skip
      obtain ⟨c2, h2, e2⟩ := cover_getT (t := 102) (n := 100) (l := ([(0, 99)] : List (Nat × Nat))) (by kernel_rfl) (a := a2) (by decide) rfl
      refine fin _ (List.all_eq_true.1 all2 c2 h2) ?_
      intro q hq
      simp only [List.mem_cons, List.not_mem_nil, or_false] at hq
      rcases hq with rfl | rfl | rfl
      · exact ⟨b0, (by show (1 : Int) ≤ 25; decide), (by show (25 : Int) ≤ 9223372036854775807; decide), e0⟩
      · exact ⟨b1, (by show (1 : Int) ≤ 100; decide), (by show (100 : Int) ≤ 9223372036854775807; decide), e1⟩
      · exact ⟨b2, (by show (1 : Int) ≤ 100; decide), (by show (100 : Int) ≤ 9223372036854775807; decide), e2⟩
    · skip
      obtain ⟨c2, h2, e2⟩ := cover_getT (t := 102) (n := 100) (l := ([(0, 99)] : List (Nat × Nat))) (by kernel_rfl) (a := a2) (by decide) rfl
      refine fin _ (List.all_eq_true.1 all3 c2 h2) ?_
      intro q hq
      simp only [List.mem_cons, List.not_mem_nil, or_false] at hq
      rcases hq with rfl | rfl | rfl
      · exact ⟨b0, (by show (1 : Int) ≤ 25; decide), (by show (25 : Int) ≤ 9223372036854775807; decide), e0⟩
      · exact ⟨b1, (by show (1 : Int) ≤ 100; decide), (by show (100 : Int) ≤ 9223372036854775807; decide), e1⟩
      · exact ⟨b2, (by show (1 : Int) ≤ 100; decide), (by show (100 : Int) ≤ 9223372036854775807; decide), e2⟩
end Go.Proofs.Ytiheogigjogjbaa.admitForms
