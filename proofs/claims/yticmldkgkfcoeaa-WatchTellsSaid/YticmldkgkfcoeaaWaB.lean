/- Which states may follow which: the program's and the plain answer. -/
import Derived.Test.YticmldkgkfcoeaaWaA
import Derived.Test.YticmldkgkfcoeaaCrewM
import Derived.Test.YticmldkgkfcoeaaWithin
import Derived.Deep.CutRange
import Derived.Deep.RegionHeld3
import Derived.Deep.DeepCutAuto
import Derived.Deep.CutBlock
import Derived.Lib.Builder
namespace Go.Proofs.Yticmldkgkfcoeaa.Wa
open Go Go.RowKit Go.Proofs.Yticmldkgkfcoeaa Go.Proofs.Yticmldkgkfcoeaa.Crw Go.ChangeShapes Go.WideShapes Go.ChangeAt
set_option linter.unusedVariables false
set_option maxRecDepth 100000
theorem OverP (s : Int) (w : World) : Calls Try.prog 22 #[.int .i64 s] w fun e w' => e = .returned (.bool (decide (3 ≤ s ∧ s ≤ 7))) ∧ w = w' := by
  by_cases h1 : 3 ≤ s
  all_goals by_cases h2 : s ≤ 7
  all_goals
    go_enter Try.func22, Try.ntmps22
    go_wp2
    go_ret
    exact ⟨by simp [*], rfl⟩
theorem OverR (s : Int) (w : World) : Calls Try.prog 19 #[.int .i64 s] w fun e w' => e = .returned (.bool (decide (3 ≤ s ∧ s ≤ 7))) ∧ w = w' := by
  by_cases h1 : 3 ≤ s
  all_goals by_cases h2 : s ≤ 7
  all_goals
    go_enter Try.func19, Try.ntmps19
    go_wp2
    go_ret
    exact ⟨by simp [*], rfl⟩
set_option maxHeartbeats 4000000 in
theorem MayP (s t : Int) (w : World) : Calls Try.prog 21 #[.int .i64 s, .int .i64 t] w fun e w' => e = .returned (.bool (may s t)) ∧ w = w' := by
  have hO := fun w => OverP t w
  have hc : (s = 1 ∧ t = 2) ∨ (s = 1 ∧ ¬ t = 2) ∨ (s = 2 ∧ t = 7) ∨ (s = 2 ∧ ¬ t = 7 ∧ (3 ≤ t ∧ t ≤ 7)) ∨ (s = 2 ∧ ¬ t = 7 ∧ ¬ (3 ≤ t ∧ t ≤ 7)) ∨ (¬ s = 1 ∧ ¬ s = 2) := by omega
  rcases hc with ⟨rfl, rfl⟩ | ⟨rfl, h2⟩ | ⟨rfl, rfl⟩ | ⟨rfl, h2, h3⟩ | ⟨rfl, h2, h3⟩ | ⟨h1, h2⟩
  · go_enter Try.func21, Try.ntmps21
    go_wp2_with (go_at_call 22; refine (hO _).mono ?_; rintro e w' ⟨rfl, rfl⟩)
    go_ret
    exact ⟨by simp [may], rfl⟩
  · go_enter Try.func21, Try.ntmps21
    go_wp2_with (go_at_call 22; refine (hO _).mono ?_; rintro e w' ⟨rfl, rfl⟩)
    go_ret
    exact ⟨by simp [may], rfl⟩
  · go_enter Try.func21, Try.ntmps21
    go_wp2_with (go_at_call 22; refine (hO _).mono ?_; rintro e w' ⟨rfl, rfl⟩)
    go_ret
    exact ⟨by simp [may], rfl⟩
  · rw [decide_eq_true h3] at hO
    have h5 : (t != 7) = true := by simpa [bne] using h2
    have h4 : 3 ≤ t ∧ t ≤ 6 := by omega
    go_enter Try.func21, Try.ntmps21
    go_wp2_with (go_at_call 22; refine (hO _).mono ?_; rintro e w' ⟨rfl, rfl⟩)
    go_ret
    exact ⟨by simp [may, h4], rfl⟩
  · rw [decide_eq_false h3] at hO
    have h5 : (t != 7) = true := by simpa [bne] using h2
    have h4 : ¬ (3 ≤ t ∧ t ≤ 6) := by omega
    go_enter Try.func21, Try.ntmps21
    go_wp2_with (go_at_call 22; refine (hO _).mono ?_; rintro e w' ⟨rfl, rfl⟩)
    go_ret
    have hm : may 2 t = false := by unfold may; rw [if_neg (by decide), if_pos rfl, decide_eq_false h4]
    exact ⟨by rw [hm]; rfl, rfl⟩
  · go_enter Try.func21, Try.ntmps21
    go_wp2_with (go_at_call 22; refine (hO _).mono ?_; rintro e w' ⟨rfl, rfl⟩)
    go_ret
    exact ⟨by simp [may, h1, h2], rfl⟩
set_option maxHeartbeats 4000000 in
theorem MayR (s t : Int) (w : World) : Calls Try.prog 15 #[.int .i64 s, .int .i64 t] w fun e w' => e = .returned (.bool (may s t)) ∧ w = w' := by
  have hO := fun w => OverR t w
  have hc : (s = 1 ∧ t = 2) ∨ (s = 1 ∧ ¬ t = 2) ∨ (s = 2 ∧ t = 7) ∨ (s = 2 ∧ ¬ t = 7 ∧ (3 ≤ t ∧ t ≤ 7)) ∨ (s = 2 ∧ ¬ t = 7 ∧ ¬ (3 ≤ t ∧ t ≤ 7)) ∨ (¬ s = 1 ∧ ¬ s = 2) := by omega
  rcases hc with ⟨rfl, rfl⟩ | ⟨rfl, h2⟩ | ⟨rfl, rfl⟩ | ⟨rfl, h2, h3⟩ | ⟨rfl, h2, h3⟩ | ⟨h1, h2⟩
  · go_enter Try.func15, Try.ntmps15
    go_wp2_with (go_at_call 19; refine (hO _).mono ?_; rintro e w' ⟨rfl, rfl⟩)
    go_ret
    exact ⟨by simp [may], rfl⟩
  · go_enter Try.func15, Try.ntmps15
    go_wp2_with (go_at_call 19; refine (hO _).mono ?_; rintro e w' ⟨rfl, rfl⟩)
    go_ret
    exact ⟨by simp [may], rfl⟩
  · go_enter Try.func15, Try.ntmps15
    go_wp2_with (go_at_call 19; refine (hO _).mono ?_; rintro e w' ⟨rfl, rfl⟩)
    go_ret
    exact ⟨by simp [may], rfl⟩
  · rw [decide_eq_true h3] at hO
    have h5 : (t != 7) = true := by simpa [bne] using h2
    have h4 : 3 ≤ t ∧ t ≤ 6 := by omega
    go_enter Try.func15, Try.ntmps15
    go_wp2_with (go_at_call 19; refine (hO _).mono ?_; rintro e w' ⟨rfl, rfl⟩)
    go_ret
    exact ⟨by simp [may, h4], rfl⟩
  · rw [decide_eq_false h3] at hO
    have h5 : (t != 7) = true := by simpa [bne] using h2
    have h4 : ¬ (3 ≤ t ∧ t ≤ 6) := by omega
    go_enter Try.func15, Try.ntmps15
    go_wp2_with (go_at_call 19; refine (hO _).mono ?_; rintro e w' ⟨rfl, rfl⟩)
    go_ret
    have hm : may 2 t = false := by unfold may; rw [if_neg (by decide), if_pos rfl, decide_eq_false h4]
    exact ⟨by rw [hm]; rfl, rfl⟩
  · go_enter Try.func15, Try.ntmps15
    go_wp2_with (go_at_call 19; refine (hO _).mono ?_; rintro e w' ⟨rfl, rfl⟩)
    go_ret
    exact ⟨by simp [may, h1, h2], rfl⟩
end Go.Proofs.Yticmldkgkfcoeaa.Wa
