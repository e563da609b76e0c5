/- The walk of StreamWhole: the plain terms find it true, leaf by leaf. -/
import Derived.Test.YtdbnjmpeejoimaaSWW0
namespace Go.Proofs.Ytdbnjmpeejoimaa.streamWhole
open Go.ChangeShapes Go.WideShapes Go.ChangeAt Go.RowKit
set_option maxRecDepth 1000000
set_option linter.unusedVariables false
theorem walk (a0 : Int) (a1 : Int) (a2 : Int) (a3 : Bool) (w : World) (b0 : -9223372036854775808 ≤ a0 ∧ a0 ≤ 9223372036854775807) (b1 : -9223372036854775808 ≤ a1 ∧ a1 ≤ 9223372036854775807) (b2 : -9223372036854775808 ≤ a2 ∧ a2 ≤ 9223372036854775807) :
    Calls Try.prog 11 #[.int .i64 a0, .int .i64 a1, .int .i64 a2, .bool a3] w fun e w' => e = .returned (.bool true) ∧ Below w.heap.size w w' := by
  letI : Toks := ⟨fun k => if k = 0 then a0 else if k = 1 then a1 else if k = 2 then a2 else if k = 100 then a0 % 4 else if k = 101 then a1 % 1000 else if k = 102 then jitI 3 a2 else 0⟩
  have fin : ∀ (l : List (Nat × Nat × Nat × Nat × Nat)) (a3 : Bool), at_ a3 l = true → (∀ q ∈ l, (-9223372036854775808 ≤ Toks.A q.1 ∧ Toks.A q.1 ≤ 9223372036854775807) ∧ (q.2.1 < 5000000 → 1 ≤ (q.2.1 : Int) ∧ (q.2.1 : Int) ≤ 9223372036854775807 ∧ ∀ ρ : Ren, VR ρ (caseV q.2.2.1 (q.2.2.2.1, q.2.2.2.2)) (.int .i64 (Toks.A q.1 % (q.2.1 : Int)))) ∧ (¬ q.2.1 < 5000000 → ∀ ρ : Ren, VR ρ (caseV q.2.2.1 (q.2.2.2.1, q.2.2.2.2)) (.int .i64 (jitI ((q.2.1 : Int) - 5000000) (Toks.A q.1))))) →
      Calls Try.prog 11 #[.int .i64 a0, .int .i64 a1, .int .i64 a2, .bool a3] w fun e w' => e = .returned (.bool true) ∧ Below w.heap.size w w' := by
    intro l a3 hc hok
    refine top_plain (okF := cfg l) tabAll_ok ⟨overJ_ok (tabOf l) (tabJ l) (overW_ok (tabOf l) (fun q hq => ?_) fun q hq => ?_) (fun q hq => ?_) (fun q hq => ?_), summAll_ok, summAll_mono⟩ mixed 3000 60 w ?_ hc
    · obtain ⟨x, hx, he⟩ := List.mem_filterMap.1 hq
      by_cases hlt : x.2.1 < 5000000
      · rw [if_pos hlt] at he; cases he; exact (hok x hx).1
      · rw [if_neg hlt] at he; cases he
    · obtain ⟨x, hx, he⟩ := List.mem_filterMap.1 hq
      by_cases hlt : x.2.1 < 5000000
      · rw [if_pos hlt] at he; cases he; exact (hok x hx).2.1 hlt
      · rw [if_neg hlt] at he; cases he
    · obtain ⟨x, hx, he⟩ := List.mem_filterMap.1 hq
      by_cases hlt : x.2.1 < 5000000
      · rw [if_pos hlt] at he; cases he
      · rw [if_neg hlt] at he; cases he; exact (hok x hx).1.2
    · obtain ⟨x, hx, he⟩ := List.mem_filterMap.1 hq
      by_cases hlt : x.2.1 < 5000000
      · rw [if_pos hlt] at he; cases he
      · rw [if_neg hlt] at he; cases he; exact (hok x hx).2.2 hlt
    · exact .cons (rfl) (.cons (rfl) (.cons (rfl) (.cons (VR.flat rfl) .nil)))
  cases a3
  · skip
    obtain ⟨c0, h0, e0⟩ := cover_get (t := 100) (n := 4) (l := ([(0, 0), (1, 1), (2, 2), (3, 3)] : List (Nat × Nat))) (by kernel_rfl) (a := a0) (by decide) rfl
    simp only [List.mem_cons, List.not_mem_nil, or_false] at h0
    rcases h0 with rfl | rfl | rfl | rfl
    · skip
      obtain ⟨c1, h1, e1⟩ := cover_get (t := 101) (n := 1000) (l := ([(0, 999)] : List (Nat × Nat))) (by kernel_rfl) (a := a1) (by decide) rfl
      simp only [List.mem_cons, List.not_mem_nil, or_false] at h1
      subst h1
      · skip
        obtain ⟨c2, h2, e2⟩ := cover_jit (t := 102) (m := 2) (d := 3) (l := ([(0, 0), (1, 1)] : List (Nat × Nat))) (by kernel_rfl) (a := a2) (by decide) rfl
        refine fin _ false (List.all_eq_true.1 all0 c2 h2) ?_
        intro q hq
        simp only [List.mem_cons, List.not_mem_nil, or_false] at hq
        rcases hq with rfl | rfl | rfl
        · exact ⟨b0, (fun _ => ⟨(by show (1 : Int) ≤ 4; decide), (by show (4 : Int) ≤ 9223372036854775807; decide), e0⟩), fun h => absurd (by show (4 : Nat) < 5000000; decide) h⟩
        · exact ⟨b1, (fun _ => ⟨(by show (1 : Int) ≤ 1000; decide), (by show (1000 : Int) ≤ 9223372036854775807; decide), e1⟩), fun h => absurd (by show (1000 : Nat) < 5000000; decide) h⟩
        · exact ⟨b2, (fun h => absurd h (by show ¬ (5000003 : Nat) < 5000000; decide)), fun _ => by
            have e : ((5000003 : Nat) : Int) - 5000000 = 3 := by decide
            show ∀ ρ : Ren, VR ρ _ (.int .i64 (jitI (((5000003 : Nat) : Int) - 5000000) _))
            rw [e]
            exact e2⟩
    · skip
      obtain ⟨c1, h1, e1⟩ := cover_get (t := 101) (n := 1000) (l := ([(0, 999)] : List (Nat × Nat))) (by kernel_rfl) (a := a1) (by decide) rfl
      simp only [List.mem_cons, List.not_mem_nil, or_false] at h1
      subst h1
      · skip
        obtain ⟨c2, h2, e2⟩ := cover_jit (t := 102) (m := 2) (d := 3) (l := ([(0, 0), (1, 1)] : List (Nat × Nat))) (by kernel_rfl) (a := a2) (by decide) rfl
        refine fin _ false (List.all_eq_true.1 all1 c2 h2) ?_
        intro q hq
        simp only [List.mem_cons, List.not_mem_nil, or_false] at hq
        rcases hq with rfl | rfl | rfl
        · exact ⟨b0, (fun _ => ⟨(by show (1 : Int) ≤ 4; decide), (by show (4 : Int) ≤ 9223372036854775807; decide), e0⟩), fun h => absurd (by show (4 : Nat) < 5000000; decide) h⟩
        · exact ⟨b1, (fun _ => ⟨(by show (1 : Int) ≤ 1000; decide), (by show (1000 : Int) ≤ 9223372036854775807; decide), e1⟩), fun h => absurd (by show (1000 : Nat) < 5000000; decide) h⟩
        · exact ⟨b2, (fun h => absurd h (by show ¬ (5000003 : Nat) < 5000000; decide)), fun _ => by
            have e : ((5000003 : Nat) : Int) - 5000000 = 3 := by decide
            show ∀ ρ : Ren, VR ρ _ (.int .i64 (jitI (((5000003 : Nat) : Int) - 5000000) _))
            rw [e]
            exact e2⟩
    · skip
      obtain ⟨c1, h1, e1⟩ := cover_get (t := 101) (n := 1000) (l := ([(0, 999)] : List (Nat × Nat))) (by kernel_rfl) (a := a1) (by decide) rfl
      simp only [List.mem_cons, List.not_mem_nil, or_false] at h1
      subst h1
      · skip
        obtain ⟨c2, h2, e2⟩ := cover_jit (t := 102) (m := 2) (d := 3) (l := ([(0, 0), (1, 1)] : List (Nat × Nat))) (by kernel_rfl) (a := a2) (by decide) rfl
        refine fin _ false (List.all_eq_true.1 all2 c2 h2) ?_
        intro q hq
        simp only [List.mem_cons, List.not_mem_nil, or_false] at hq
        rcases hq with rfl | rfl | rfl
        · exact ⟨b0, (fun _ => ⟨(by show (1 : Int) ≤ 4; decide), (by show (4 : Int) ≤ 9223372036854775807; decide), e0⟩), fun h => absurd (by show (4 : Nat) < 5000000; decide) h⟩
        · exact ⟨b1, (fun _ => ⟨(by show (1 : Int) ≤ 1000; decide), (by show (1000 : Int) ≤ 9223372036854775807; decide), e1⟩), fun h => absurd (by show (1000 : Nat) < 5000000; decide) h⟩
        · exact ⟨b2, (fun h => absurd h (by show ¬ (5000003 : Nat) < 5000000; decide)), fun _ => by
            have e : ((5000003 : Nat) : Int) - 5000000 = 3 := by decide
            show ∀ ρ : Ren, VR ρ _ (.int .i64 (jitI (((5000003 : Nat) : Int) - 5000000) _))
            rw [e]
            exact e2⟩
    · skip
      obtain ⟨c1, h1, e1⟩ := cover_get (t := 101) (n := 1000) (l := ([(0, 999)] : List (Nat × Nat))) (by kernel_rfl) (a := a1) (by decide) rfl
      simp only [List.mem_cons, List.not_mem_nil, or_false] at h1
      subst h1
      · skip
        obtain ⟨c2, h2, e2⟩ := cover_jit (t := 102) (m := 2) (d := 3) (l := ([(0, 0), (1, 1)] : List (Nat × Nat))) (by kernel_rfl) (a := a2) (by decide) rfl
        refine fin _ false (List.all_eq_true.1 all3 c2 h2) ?_
        intro q hq
        simp only [List.mem_cons, List.not_mem_nil, or_false] at hq
        rcases hq with rfl | rfl | rfl
        · exact ⟨b0, (fun _ => ⟨(by show (1 : Int) ≤ 4; decide), (by show (4 : Int) ≤ 9223372036854775807; decide), e0⟩), fun h => absurd (by show (4 : Nat) < 5000000; decide) h⟩
        · exact ⟨b1, (fun _ => ⟨(by show (1 : Int) ≤ 1000; decide), (by show (1000 : Int) ≤ 9223372036854775807; decide), e1⟩), fun h => absurd (by show (1000 : Nat) < 5000000; decide) h⟩
        · exact ⟨b2, (fun h => absurd h (by show ¬ (5000003 : Nat) < 5000000; decide)), fun _ => by
            have e : ((5000003 : Nat) : Int) - 5000000 = 3 := by decide
            show ∀ ρ : Ren, VR ρ _ (.int .i64 (jitI (((5000003 : Nat) : Int) - 5000000) _))
            rw [e]
            exact e2⟩
  · skip
    obtain ⟨c0, h0, e0⟩ := cover_get (t := 100) (n := 4) (l := ([(0, 0), (1, 1), (2, 2), (3, 3)] : List (Nat × Nat))) (by kernel_rfl) (a := a0) (by decide) rfl
    simp only [List.mem_cons, List.not_mem_nil, or_false] at h0
    rcases h0 with rfl | rfl | rfl | rfl
    · skip
      obtain ⟨c1, h1, e1⟩ := cover_get (t := 101) (n := 1000) (l := ([(0, 999)] : List (Nat × Nat))) (by kernel_rfl) (a := a1) (by decide) rfl
      simp only [List.mem_cons, List.not_mem_nil, or_false] at h1
      subst h1
      · skip
        obtain ⟨c2, h2, e2⟩ := cover_jit (t := 102) (m := 2) (d := 3) (l := ([(0, 0), (1, 1)] : List (Nat × Nat))) (by kernel_rfl) (a := a2) (by decide) rfl
        refine fin _ true (List.all_eq_true.1 all4 c2 h2) ?_
        intro q hq
        simp only [List.mem_cons, List.not_mem_nil, or_false] at hq
        rcases hq with rfl | rfl | rfl
        · exact ⟨b0, (fun _ => ⟨(by show (1 : Int) ≤ 4; decide), (by show (4 : Int) ≤ 9223372036854775807; decide), e0⟩), fun h => absurd (by show (4 : Nat) < 5000000; decide) h⟩
        · exact ⟨b1, (fun _ => ⟨(by show (1 : Int) ≤ 1000; decide), (by show (1000 : Int) ≤ 9223372036854775807; decide), e1⟩), fun h => absurd (by show (1000 : Nat) < 5000000; decide) h⟩
        · exact ⟨b2, (fun h => absurd h (by show ¬ (5000003 : Nat) < 5000000; decide)), fun _ => by
            have e : ((5000003 : Nat) : Int) - 5000000 = 3 := by decide
            show ∀ ρ : Ren, VR ρ _ (.int .i64 (jitI (((5000003 : Nat) : Int) - 5000000) _))
            rw [e]
            exact e2⟩
    · skip
      obtain ⟨c1, h1, e1⟩ := cover_get (t := 101) (n := 1000) (l := ([(0, 999)] : List (Nat × Nat))) (by kernel_rfl) (a := a1) (by decide) rfl
      simp only [List.mem_cons, List.not_mem_nil, or_false] at h1
      subst h1
      · skip
        obtain ⟨c2, h2, e2⟩ := cover_jit (t := 102) (m := 2) (d := 3) (l := ([(0, 0), (1, 1)] : List (Nat × Nat))) (by kernel_rfl) (a := a2) (by decide) rfl
        refine fin _ true (List.all_eq_true.1 all5 c2 h2) ?_
        intro q hq
        simp only [List.mem_cons, List.not_mem_nil, or_false] at hq
        rcases hq with rfl | rfl | rfl
        · exact ⟨b0, (fun _ => ⟨(by show (1 : Int) ≤ 4; decide), (by show (4 : Int) ≤ 9223372036854775807; decide), e0⟩), fun h => absurd (by show (4 : Nat) < 5000000; decide) h⟩
        · exact ⟨b1, (fun _ => ⟨(by show (1 : Int) ≤ 1000; decide), (by show (1000 : Int) ≤ 9223372036854775807; decide), e1⟩), fun h => absurd (by show (1000 : Nat) < 5000000; decide) h⟩
        · exact ⟨b2, (fun h => absurd h (by show ¬ (5000003 : Nat) < 5000000; decide)), fun _ => by
            have e : ((5000003 : Nat) : Int) - 5000000 = 3 := by decide
            show ∀ ρ : Ren, VR ρ _ (.int .i64 (jitI (((5000003 : Nat) : Int) - 5000000) _))
            rw [e]
            exact e2⟩
    · skip
      obtain ⟨c1, h1, e1⟩ := cover_get (t := 101) (n := 1000) (l := ([(0, 999)] : List (Nat × Nat))) (by kernel_rfl) (a := a1) (by decide) rfl
      simp only [List.mem_cons, List.not_mem_nil, or_false] at h1
      subst h1
      · skip
        obtain ⟨c2, h2, e2⟩ := cover_jit (t := 102) (m := 2) (d := 3) (l := ([(0, 0), (1, 1)] : List (Nat × Nat))) (by kernel_rfl) (a := a2) (by decide) rfl
        refine fin _ true (List.all_eq_true.1 all6 c2 h2) ?_
        intro q hq
        simp only [List.mem_cons, List.not_mem_nil, or_false] at hq
        rcases hq with rfl | rfl | rfl
        · exact ⟨b0, (fun _ => ⟨(by show (1 : Int) ≤ 4; decide), (by show (4 : Int) ≤ 9223372036854775807; decide), e0⟩), fun h => absurd (by show (4 : Nat) < 5000000; decide) h⟩
        · exact ⟨b1, (fun _ => ⟨(by show (1 : Int) ≤ 1000; decide), (by show (1000 : Int) ≤ 9223372036854775807; decide), e1⟩), fun h => absurd (by show (1000 : Nat) < 5000000; decide) h⟩
        · exact ⟨b2, (fun h => absurd h (by show ¬ (5000003 : Nat) < 5000000; decide)), fun _ => by
            have e : ((5000003 : Nat) : Int) - 5000000 = 3 := by decide
            show ∀ ρ : Ren, VR ρ _ (.int .i64 (jitI (((5000003 : Nat) : Int) - 5000000) _))
            rw [e]
            exact e2⟩
    · skip
      obtain ⟨c1, h1, e1⟩ := cover_get (t := 101) (n := 1000) (l := ([(0, 999)] : List (Nat × Nat))) (by kernel_rfl) (a := a1) (by decide) rfl
      simp only [List.mem_cons, List.not_mem_nil, or_false] at h1
      subst h1
      · skip
        obtain ⟨c2, h2, e2⟩ := cover_jit (t := 102) (m := 2) (d := 3) (l := ([(0, 0), (1, 1)] : List (Nat × Nat))) (by kernel_rfl) (a := a2) (by decide) rfl
        refine fin _ true (List.all_eq_true.1 all7 c2 h2) ?_
        intro q hq
        simp only [List.mem_cons, List.not_mem_nil, or_false] at hq
        rcases hq with rfl | rfl | rfl
        · exact ⟨b0, (fun _ => ⟨(by show (1 : Int) ≤ 4; decide), (by show (4 : Int) ≤ 9223372036854775807; decide), e0⟩), fun h => absurd (by show (4 : Nat) < 5000000; decide) h⟩
        · exact ⟨b1, (fun _ => ⟨(by show (1 : Int) ≤ 1000; decide), (by show (1000 : Int) ≤ 9223372036854775807; decide), e1⟩), fun h => absurd (by show (1000 : Nat) < 5000000; decide) h⟩
        · exact ⟨b2, (fun h => absurd h (by show ¬ (5000003 : Nat) < 5000000; decide)), fun _ => by
            have e : ((5000003 : Nat) : Int) - 5000000 = 3 := by decide
            show ∀ ρ : Ren, VR ρ _ (.int .i64 (jitI (((5000003 : Nat) : Int) - 5000000) _))
            rw [e]
            exact e2⟩
end Go.Proofs.Ytdbnjmpeejoimaa.streamWhole
