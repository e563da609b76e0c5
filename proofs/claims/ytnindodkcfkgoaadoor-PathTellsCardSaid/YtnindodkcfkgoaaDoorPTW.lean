/- The walk of PathTells: the Go text returns true, and writes nothing that was there. -/
import Derived.Test.YtnindodkcfkgoaaDoorPath3
namespace Go.Proofs.YtnindodkcfkgoaaDoor.pathTells
open Go.ChangeShapes Go.WideShapes Go.ChangeAt Go.RowKit
set_option linter.unusedVariables false
theorem cut_le (s : ByteArray) : (s.extract 0 (min s.size 10)).size ≤ 10 := by
  rw [ByteArray.size_extract]; omega
set_option maxRecDepth 100000 in
set_option maxHeartbeats 8000000 in
theorem walk (a0 : Int) (a1 : ByteArray) (a2 : ByteArray) (a3 : Int) (a4 : ByteArray) (w : World) (b0 : -9223372036854775808 ≤ a0 ∧ a0 ≤ 9223372036854775807) (b1 : a1.size ≤ 140737488351232) (b2 : a2.size ≤ 140737488351232) (b3 : -9223372036854775808 ≤ a3 ∧ a3 ≤ 9223372036854775807) (b4 : a4.size ≤ 140737488351232) :
    Calls Tryd.prog 3 #[.int .i64 a0, .string a1, .string a2, .int .i64 a3, .string a4] w fun e w' => e = .returned (.bool true) ∧ Below w.heap.size w w' := by
  have hm : (140737488351232 : Nat) ≤ maxLen := by unfold maxLen; omega
  have hW0 := fun w => Within_any a0 27 w b0.1 b0.2 (by omega) (by omega)
  have hW3 := fun w => Within_any a3 3 w b3.1 b3.2 (by omega) (by omega)
  have hT1 := fun w => Text_any a1 10 w (by omega) (by omega) (by omega)
  have hT2 := fun w => Text_any a2 10 w (by omega) (by omega) (by omega)
  have e1 := cut_le a1
  have e2 := cut_le a2
  have p1 := Int.emod_nonneg a0 (show (27 : Int) ≠ 0 by omega)
  have p2 := Int.emod_lt_of_pos a0 (show (0 : Int) < 27 by omega)
  have q1 := Int.emod_nonneg a3 (show (3 : Int) ≠ 0 by omega)
  have q2 := Int.emod_lt_of_pos a3 (show (0 : Int) < 3 by omega)
  simp only [show (10 : Int).toNat = 10 from rfl] at hT1 hT2
  generalize a1.extract 0 (min a1.size 10) = F1 at *
  generalize a2.extract 0 (min a2.size 10) = F2 at *
  generalize a0 % 27 = c0 at *
  generalize hr : a3 % 3 = r at *
  have key : ∃ (N : Int) (F E S : ByteArray), F.size ≤ 10 ∧ E.size ≤ 10 ∧ S.size ≤ 140737488351233 ∧
      ((a3.tmod 5 ≠ 4 ∧ N = c0 - 1) ∨ (a3.tmod 5 = 4 ∧ N = a0)) ∧
      ((a3.tmod 3 = 2 ∧ F = F1 ∧ E = F2) ∨ (a3.tmod 3 ≠ 2 ∧ E = ⟨#[101, 120]⟩ ∧ ((r = 0 ∧ F = ⟨#[102, 114]⟩ ++ ⟨#[]⟩) ∨ (r = 1 ∧ F = ⟨#[102, 114]⟩ ++ ⟨#[49]⟩) ∨ (r = 2 ∧ F = ⟨#[102, 114]⟩ ++ ⟨#[120, 57]⟩)))) ∧
      ((a3.tmod 7 = 5 ∧ S = a4 ++ ⟨#[126]⟩) ∨ (a3.tmod 7 ≠ 5 ∧ S = a4)) := by
    have hz : (a4 ++ ⟨#[126]⟩ : ByteArray).size = a4.size + 1 := by rw [ByteArray.size_append]; rfl
    have hN : ∃ N : Int, (a3.tmod 5 ≠ 4 ∧ N = c0 - 1) ∨ (a3.tmod 5 = 4 ∧ N = a0) := by
      by_cases h : a3.tmod 5 = 4
      · exact ⟨_, .inr ⟨h, rfl⟩⟩
      · exact ⟨_, .inl ⟨h, rfl⟩⟩
    have hS : ∃ S : ByteArray, S.size ≤ 140737488351233 ∧ ((a3.tmod 7 = 5 ∧ S = a4 ++ ⟨#[126]⟩) ∨ (a3.tmod 7 ≠ 5 ∧ S = a4)) := by
      by_cases h : a3.tmod 7 = 5
      · exact ⟨_, by rw [hz]; omega, .inl ⟨h, rfl⟩⟩
      · exact ⟨_, by omega, .inr ⟨h, rfl⟩⟩
    obtain ⟨N, hN⟩ := hN
    obtain ⟨S, hS1, hS2⟩ := hS
    by_cases h : a3.tmod 3 = 2
    · exact ⟨N, F1, F2, S, e1, e2, hS1, hN, .inl ⟨h, rfl, rfl⟩, hS2⟩
    · have hx : (⟨#[101, 120]⟩ : ByteArray).size ≤ 10 := by decide
      have hr3 : r = 0 ∨ r = 1 ∨ r = 2 := by omega
      rcases hr3 with rfl | rfl | rfl
      · exact ⟨N, _, _, S, by decide, hx, hS1, hN, .inr ⟨h, rfl, .inl ⟨rfl, rfl⟩⟩, hS2⟩
      · exact ⟨N, _, _, S, by decide, hx, hS1, hN, .inr ⟨h, rfl, .inr (.inl ⟨rfl, rfl⟩)⟩, hS2⟩
      · exact ⟨N, _, _, S, by decide, hx, hS1, hN, .inr ⟨h, rfl, .inr (.inr ⟨rfl, rfl⟩)⟩, hS2⟩
  clear e1 e2 q1 q2 b0 b1 b2 b3
  obtain ⟨N, F, E, S, sF, sE, sS, hN, hFE, hS⟩ := key
  have zS : (S ++ ⟨#[126]⟩ : ByteArray).size = S.size + 1 := by rw [ByteArray.size_append]; rfl
  have h7 := fun w => Admit_any N w
  have h8 := fun w => rAdmit_any N w
  have h9 := fun w => Log_any F E w sF sE
  have h10 := fun w => rLog_any F E w sF sE
  have h11 := fun w => Gone_any F E N w sF sE
  have h12 := fun w => rOf_any ⟨#[103, 111, 110, 101]⟩ ⟨#[103, 111, 110, 101, 47]⟩ F E N w (by rfl) (by decide) sF sE
  have h13 := fun w => Box_any F E N w sF sE
  have hB := fun w => rOf_any ⟨#[98, 111, 120]⟩ ⟨#[98, 111, 120, 47]⟩ F E N w (by rfl) (by decide) sF sE
  have h14 := fun w => Temp_any S w (by omega)
  have h15 := fun w => IsTemp_any S w (by omega)
  have h16 := fun w => rIsTemp_any S w (by omega)
  have h15' := fun w => IsTemp_any (S ++ ⟨#[126]⟩) w (by omega)
  rw [isT_temp] at h15'
  generalize admS N = X1 at *
  generalize logS F E = X2 at *
  generalize runS ⟨#[103, 111, 110, 101, 47]⟩ F E N = X3 at *
  generalize runS ⟨#[98, 111, 120, 47]⟩ F E N = X4 at *
  generalize isT S = tb at *
  have sS2 : S.size + 1 ≤ 9223372036854775807 := by omega
  have s42 : a4.size + 1 ≤ 9223372036854775807 := by omega
  clear sF sE sS zS
  rcases hN with ⟨h5, rfl⟩ | ⟨h5, rfl⟩ <;> rcases hFE with ⟨h3, rfl, rfl⟩ | ⟨h3, rfl, ⟨rfl, rfl⟩ | ⟨rfl, rfl⟩ | ⟨rfl, rfl⟩⟩ <;> rcases hS with ⟨h77, rfl⟩ | ⟨h77, rfl⟩
  · go_enter Tryd.func3, Tryd.ntmps3
    go_wp2_with fail
    refine (hW0 _).mono ?_; rintro e w' ⟨rfl, rfl⟩; go_wp2_with fail
    refine (hT1 _).mono ?_; rintro e w' ⟨rfl, rfl⟩; go_wp2_with fail
    refine (hT2 _).mono ?_; rintro e w' ⟨rfl, rfl⟩; go_wp2_with fail
    refine (h7 _).mono ?_; rintro e w1 ⟨rfl, hb⟩; have hbel := below_same (Below.refl w.heap.size w) (Nat.le_refl _) hb; clear hb; go_wp2_with fail
    refine (h8 _).mono ?_; rintro e w2 ⟨rfl, hb⟩; replace hbel := below_same hbel.1 hbel.2 hb; clear hb; go_wp2_with fail
    refine (h9 _).mono ?_; rintro e w2 ⟨rfl, hb⟩; replace hbel := below_same hbel.1 hbel.2 hb; clear hb; go_wp2_with fail
    refine (h10 _).mono ?_; rintro e w2 ⟨rfl, hb⟩; replace hbel := below_same hbel.1 hbel.2 hb; clear hb; go_wp2_with fail
    refine (h11 _).mono ?_; rintro e w2 ⟨rfl, hb⟩; replace hbel := below_same hbel.1 hbel.2 hb; clear hb; go_wp2_with fail
    refine (h12 _).mono ?_; rintro e w2 ⟨rfl, hb⟩; replace hbel := below_same hbel.1 hbel.2 hb; clear hb; go_wp2_with fail
    refine (h13 _).mono ?_; rintro e w2 ⟨rfl, hb⟩; replace hbel := below_same hbel.1 hbel.2 hb; clear hb; go_wp2_with fail
    refine (hB _).mono ?_; rintro e w2 ⟨rfl, hb⟩; replace hbel := below_same hbel.1 hbel.2 hb; clear hb; go_wp2_with fail
    refine (h14 _).mono ?_; rintro e w' ⟨rfl, rfl⟩; go_wp2_with fail
    refine (h15 _).mono ?_; rintro e w' ⟨rfl, rfl⟩; go_wp2_with fail
    refine (h16 _).mono ?_; rintro e w' ⟨rfl, rfl⟩; go_wp2_with fail
    refine (h14 _).mono ?_; rintro e w' ⟨rfl, rfl⟩; go_wp2_with fail
    refine (h15' _).mono ?_; rintro e w' ⟨rfl, rfl⟩; go_wp2_with fail
    refine (wakes_17.2.2.2 _).mono ?_; rintro e w2 ⟨rfl, hb⟩; replace hbel := below_same hbel.1 hbel.2 hb; clear hb; go_wp2
    go_ret
    exact ⟨rfl, hbel.1⟩
  · go_enter Tryd.func3, Tryd.ntmps3
    go_wp2_with fail
    refine (hW0 _).mono ?_; rintro e w' ⟨rfl, rfl⟩; go_wp2_with fail
    refine (hT1 _).mono ?_; rintro e w' ⟨rfl, rfl⟩; go_wp2_with fail
    refine (hT2 _).mono ?_; rintro e w' ⟨rfl, rfl⟩; go_wp2_with fail
    refine (h7 _).mono ?_; rintro e w1 ⟨rfl, hb⟩; have hbel := below_same (Below.refl w.heap.size w) (Nat.le_refl _) hb; clear hb; go_wp2_with fail
    refine (h8 _).mono ?_; rintro e w2 ⟨rfl, hb⟩; replace hbel := below_same hbel.1 hbel.2 hb; clear hb; go_wp2_with fail
    refine (h9 _).mono ?_; rintro e w2 ⟨rfl, hb⟩; replace hbel := below_same hbel.1 hbel.2 hb; clear hb; go_wp2_with fail
    refine (h10 _).mono ?_; rintro e w2 ⟨rfl, hb⟩; replace hbel := below_same hbel.1 hbel.2 hb; clear hb; go_wp2_with fail
    refine (h11 _).mono ?_; rintro e w2 ⟨rfl, hb⟩; replace hbel := below_same hbel.1 hbel.2 hb; clear hb; go_wp2_with fail
    refine (h12 _).mono ?_; rintro e w2 ⟨rfl, hb⟩; replace hbel := below_same hbel.1 hbel.2 hb; clear hb; go_wp2_with fail
    refine (h13 _).mono ?_; rintro e w2 ⟨rfl, hb⟩; replace hbel := below_same hbel.1 hbel.2 hb; clear hb; go_wp2_with fail
    refine (hB _).mono ?_; rintro e w2 ⟨rfl, hb⟩; replace hbel := below_same hbel.1 hbel.2 hb; clear hb; go_wp2_with fail
    refine (h14 _).mono ?_; rintro e w' ⟨rfl, rfl⟩; go_wp2_with fail
    refine (h15 _).mono ?_; rintro e w' ⟨rfl, rfl⟩; go_wp2_with fail
    refine (h16 _).mono ?_; rintro e w' ⟨rfl, rfl⟩; go_wp2_with fail
    refine (h14 _).mono ?_; rintro e w' ⟨rfl, rfl⟩; go_wp2_with fail
    refine (h15' _).mono ?_; rintro e w' ⟨rfl, rfl⟩; go_wp2_with fail
    refine (wakes_17.2.2.2 _).mono ?_; rintro e w2 ⟨rfl, hb⟩; replace hbel := below_same hbel.1 hbel.2 hb; clear hb; go_wp2
    go_ret
    exact ⟨rfl, hbel.1⟩
  · go_enter Tryd.func3, Tryd.ntmps3
    go_wp2_with fail
    refine (hW0 _).mono ?_; rintro e w' ⟨rfl, rfl⟩; go_wp2_with fail
    refine (hT1 _).mono ?_; rintro e w' ⟨rfl, rfl⟩; go_wp2_with fail
    refine (hT2 _).mono ?_; rintro e w' ⟨rfl, rfl⟩; go_wp2_with fail
    refine (hW3 _).mono ?_; rintro e w' ⟨rfl, rfl⟩; go_wp2_with fail
    refine (h7 _).mono ?_; rintro e w1 ⟨rfl, hb⟩; have hbel := below_next (Below.refl w.heap.size w) (Nat.le_refl _) _ hb; clear hb; go_wp2_with fail
    refine (h8 _).mono ?_; rintro e w2 ⟨rfl, hb⟩; replace hbel := below_same hbel.1 hbel.2 hb; clear hb; go_wp2_with fail
    refine (h9 _).mono ?_; rintro e w2 ⟨rfl, hb⟩; replace hbel := below_same hbel.1 hbel.2 hb; clear hb; go_wp2_with fail
    refine (h10 _).mono ?_; rintro e w2 ⟨rfl, hb⟩; replace hbel := below_same hbel.1 hbel.2 hb; clear hb; go_wp2_with fail
    refine (h11 _).mono ?_; rintro e w2 ⟨rfl, hb⟩; replace hbel := below_same hbel.1 hbel.2 hb; clear hb; go_wp2_with fail
    refine (h12 _).mono ?_; rintro e w2 ⟨rfl, hb⟩; replace hbel := below_same hbel.1 hbel.2 hb; clear hb; go_wp2_with fail
    refine (h13 _).mono ?_; rintro e w2 ⟨rfl, hb⟩; replace hbel := below_same hbel.1 hbel.2 hb; clear hb; go_wp2_with fail
    refine (hB _).mono ?_; rintro e w2 ⟨rfl, hb⟩; replace hbel := below_same hbel.1 hbel.2 hb; clear hb; go_wp2_with fail
    refine (h14 _).mono ?_; rintro e w' ⟨rfl, rfl⟩; go_wp2_with fail
    refine (h15 _).mono ?_; rintro e w' ⟨rfl, rfl⟩; go_wp2_with fail
    refine (h16 _).mono ?_; rintro e w' ⟨rfl, rfl⟩; go_wp2_with fail
    refine (h14 _).mono ?_; rintro e w' ⟨rfl, rfl⟩; go_wp2_with fail
    refine (h15' _).mono ?_; rintro e w' ⟨rfl, rfl⟩; go_wp2_with fail
    refine (wakes_17.2.2.2 _).mono ?_; rintro e w2 ⟨rfl, hb⟩; replace hbel := below_same hbel.1 hbel.2 hb; clear hb; go_wp2
    go_ret
    exact ⟨rfl, hbel.1⟩
  · go_enter Tryd.func3, Tryd.ntmps3
    go_wp2_with fail
    refine (hW0 _).mono ?_; rintro e w' ⟨rfl, rfl⟩; go_wp2_with fail
    refine (hT1 _).mono ?_; rintro e w' ⟨rfl, rfl⟩; go_wp2_with fail
    refine (hT2 _).mono ?_; rintro e w' ⟨rfl, rfl⟩; go_wp2_with fail
    refine (hW3 _).mono ?_; rintro e w' ⟨rfl, rfl⟩; go_wp2_with fail
    refine (h7 _).mono ?_; rintro e w1 ⟨rfl, hb⟩; have hbel := below_next (Below.refl w.heap.size w) (Nat.le_refl _) _ hb; clear hb; go_wp2_with fail
    refine (h8 _).mono ?_; rintro e w2 ⟨rfl, hb⟩; replace hbel := below_same hbel.1 hbel.2 hb; clear hb; go_wp2_with fail
    refine (h9 _).mono ?_; rintro e w2 ⟨rfl, hb⟩; replace hbel := below_same hbel.1 hbel.2 hb; clear hb; go_wp2_with fail
    refine (h10 _).mono ?_; rintro e w2 ⟨rfl, hb⟩; replace hbel := below_same hbel.1 hbel.2 hb; clear hb; go_wp2_with fail
    refine (h11 _).mono ?_; rintro e w2 ⟨rfl, hb⟩; replace hbel := below_same hbel.1 hbel.2 hb; clear hb; go_wp2_with fail
    refine (h12 _).mono ?_; rintro e w2 ⟨rfl, hb⟩; replace hbel := below_same hbel.1 hbel.2 hb; clear hb; go_wp2_with fail
    refine (h13 _).mono ?_; rintro e w2 ⟨rfl, hb⟩; replace hbel := below_same hbel.1 hbel.2 hb; clear hb; go_wp2_with fail
    refine (hB _).mono ?_; rintro e w2 ⟨rfl, hb⟩; replace hbel := below_same hbel.1 hbel.2 hb; clear hb; go_wp2_with fail
    refine (h14 _).mono ?_; rintro e w' ⟨rfl, rfl⟩; go_wp2_with fail
    refine (h15 _).mono ?_; rintro e w' ⟨rfl, rfl⟩; go_wp2_with fail
    refine (h16 _).mono ?_; rintro e w' ⟨rfl, rfl⟩; go_wp2_with fail
    refine (h14 _).mono ?_; rintro e w' ⟨rfl, rfl⟩; go_wp2_with fail
    refine (h15' _).mono ?_; rintro e w' ⟨rfl, rfl⟩; go_wp2_with fail
    refine (wakes_17.2.2.2 _).mono ?_; rintro e w2 ⟨rfl, hb⟩; replace hbel := below_same hbel.1 hbel.2 hb; clear hb; go_wp2
    go_ret
    exact ⟨rfl, hbel.1⟩
  · go_enter Tryd.func3, Tryd.ntmps3
    go_wp2_with fail
    refine (hW0 _).mono ?_; rintro e w' ⟨rfl, rfl⟩; go_wp2_with fail
    refine (hT1 _).mono ?_; rintro e w' ⟨rfl, rfl⟩; go_wp2_with fail
    refine (hT2 _).mono ?_; rintro e w' ⟨rfl, rfl⟩; go_wp2_with fail
    refine (hW3 _).mono ?_; rintro e w' ⟨rfl, rfl⟩; go_wp2_with fail
    refine (h7 _).mono ?_; rintro e w1 ⟨rfl, hb⟩; have hbel := below_next (Below.refl w.heap.size w) (Nat.le_refl _) _ hb; clear hb; go_wp2_with fail
    refine (h8 _).mono ?_; rintro e w2 ⟨rfl, hb⟩; replace hbel := below_same hbel.1 hbel.2 hb; clear hb; go_wp2_with fail
    refine (h9 _).mono ?_; rintro e w2 ⟨rfl, hb⟩; replace hbel := below_same hbel.1 hbel.2 hb; clear hb; go_wp2_with fail
    refine (h10 _).mono ?_; rintro e w2 ⟨rfl, hb⟩; replace hbel := below_same hbel.1 hbel.2 hb; clear hb; go_wp2_with fail
    refine (h11 _).mono ?_; rintro e w2 ⟨rfl, hb⟩; replace hbel := below_same hbel.1 hbel.2 hb; clear hb; go_wp2_with fail
    refine (h12 _).mono ?_; rintro e w2 ⟨rfl, hb⟩; replace hbel := below_same hbel.1 hbel.2 hb; clear hb; go_wp2_with fail
    refine (h13 _).mono ?_; rintro e w2 ⟨rfl, hb⟩; replace hbel := below_same hbel.1 hbel.2 hb; clear hb; go_wp2_with fail
    refine (hB _).mono ?_; rintro e w2 ⟨rfl, hb⟩; replace hbel := below_same hbel.1 hbel.2 hb; clear hb; go_wp2_with fail
    refine (h14 _).mono ?_; rintro e w' ⟨rfl, rfl⟩; go_wp2_with fail
    refine (h15 _).mono ?_; rintro e w' ⟨rfl, rfl⟩; go_wp2_with fail
    refine (h16 _).mono ?_; rintro e w' ⟨rfl, rfl⟩; go_wp2_with fail
    refine (h14 _).mono ?_; rintro e w' ⟨rfl, rfl⟩; go_wp2_with fail
    refine (h15' _).mono ?_; rintro e w' ⟨rfl, rfl⟩; go_wp2_with fail
    refine (wakes_17.2.2.2 _).mono ?_; rintro e w2 ⟨rfl, hb⟩; replace hbel := below_same hbel.1 hbel.2 hb; clear hb; go_wp2
    go_ret
    exact ⟨rfl, hbel.1⟩
  · go_enter Tryd.func3, Tryd.ntmps3
    go_wp2_with fail
    refine (hW0 _).mono ?_; rintro e w' ⟨rfl, rfl⟩; go_wp2_with fail
    refine (hT1 _).mono ?_; rintro e w' ⟨rfl, rfl⟩; go_wp2_with fail
    refine (hT2 _).mono ?_; rintro e w' ⟨rfl, rfl⟩; go_wp2_with fail
    refine (hW3 _).mono ?_; rintro e w' ⟨rfl, rfl⟩; go_wp2_with fail
    refine (h7 _).mono ?_; rintro e w1 ⟨rfl, hb⟩; have hbel := below_next (Below.refl w.heap.size w) (Nat.le_refl _) _ hb; clear hb; go_wp2_with fail
    refine (h8 _).mono ?_; rintro e w2 ⟨rfl, hb⟩; replace hbel := below_same hbel.1 hbel.2 hb; clear hb; go_wp2_with fail
    refine (h9 _).mono ?_; rintro e w2 ⟨rfl, hb⟩; replace hbel := below_same hbel.1 hbel.2 hb; clear hb; go_wp2_with fail
    refine (h10 _).mono ?_; rintro e w2 ⟨rfl, hb⟩; replace hbel := below_same hbel.1 hbel.2 hb; clear hb; go_wp2_with fail
    refine (h11 _).mono ?_; rintro e w2 ⟨rfl, hb⟩; replace hbel := below_same hbel.1 hbel.2 hb; clear hb; go_wp2_with fail
    refine (h12 _).mono ?_; rintro e w2 ⟨rfl, hb⟩; replace hbel := below_same hbel.1 hbel.2 hb; clear hb; go_wp2_with fail
    refine (h13 _).mono ?_; rintro e w2 ⟨rfl, hb⟩; replace hbel := below_same hbel.1 hbel.2 hb; clear hb; go_wp2_with fail
    refine (hB _).mono ?_; rintro e w2 ⟨rfl, hb⟩; replace hbel := below_same hbel.1 hbel.2 hb; clear hb; go_wp2_with fail
    refine (h14 _).mono ?_; rintro e w' ⟨rfl, rfl⟩; go_wp2_with fail
    refine (h15 _).mono ?_; rintro e w' ⟨rfl, rfl⟩; go_wp2_with fail
    refine (h16 _).mono ?_; rintro e w' ⟨rfl, rfl⟩; go_wp2_with fail
    refine (h14 _).mono ?_; rintro e w' ⟨rfl, rfl⟩; go_wp2_with fail
    refine (h15' _).mono ?_; rintro e w' ⟨rfl, rfl⟩; go_wp2_with fail
    refine (wakes_17.2.2.2 _).mono ?_; rintro e w2 ⟨rfl, hb⟩; replace hbel := below_same hbel.1 hbel.2 hb; clear hb; go_wp2
    go_ret
    exact ⟨rfl, hbel.1⟩
  · go_enter Tryd.func3, Tryd.ntmps3
    go_wp2_with fail
    refine (hW0 _).mono ?_; rintro e w' ⟨rfl, rfl⟩; go_wp2_with fail
    refine (hT1 _).mono ?_; rintro e w' ⟨rfl, rfl⟩; go_wp2_with fail
    refine (hT2 _).mono ?_; rintro e w' ⟨rfl, rfl⟩; go_wp2_with fail
    refine (hW3 _).mono ?_; rintro e w' ⟨rfl, rfl⟩; go_wp2_with fail
    refine (h7 _).mono ?_; rintro e w1 ⟨rfl, hb⟩; have hbel := below_next (Below.refl w.heap.size w) (Nat.le_refl _) _ hb; clear hb; go_wp2_with fail
    refine (h8 _).mono ?_; rintro e w2 ⟨rfl, hb⟩; replace hbel := below_same hbel.1 hbel.2 hb; clear hb; go_wp2_with fail
    refine (h9 _).mono ?_; rintro e w2 ⟨rfl, hb⟩; replace hbel := below_same hbel.1 hbel.2 hb; clear hb; go_wp2_with fail
    refine (h10 _).mono ?_; rintro e w2 ⟨rfl, hb⟩; replace hbel := below_same hbel.1 hbel.2 hb; clear hb; go_wp2_with fail
    refine (h11 _).mono ?_; rintro e w2 ⟨rfl, hb⟩; replace hbel := below_same hbel.1 hbel.2 hb; clear hb; go_wp2_with fail
    refine (h12 _).mono ?_; rintro e w2 ⟨rfl, hb⟩; replace hbel := below_same hbel.1 hbel.2 hb; clear hb; go_wp2_with fail
    refine (h13 _).mono ?_; rintro e w2 ⟨rfl, hb⟩; replace hbel := below_same hbel.1 hbel.2 hb; clear hb; go_wp2_with fail
    refine (hB _).mono ?_; rintro e w2 ⟨rfl, hb⟩; replace hbel := below_same hbel.1 hbel.2 hb; clear hb; go_wp2_with fail
    refine (h14 _).mono ?_; rintro e w' ⟨rfl, rfl⟩; go_wp2_with fail
    refine (h15 _).mono ?_; rintro e w' ⟨rfl, rfl⟩; go_wp2_with fail
    refine (h16 _).mono ?_; rintro e w' ⟨rfl, rfl⟩; go_wp2_with fail
    refine (h14 _).mono ?_; rintro e w' ⟨rfl, rfl⟩; go_wp2_with fail
    refine (h15' _).mono ?_; rintro e w' ⟨rfl, rfl⟩; go_wp2_with fail
    refine (wakes_17.2.2.2 _).mono ?_; rintro e w2 ⟨rfl, hb⟩; replace hbel := below_same hbel.1 hbel.2 hb; clear hb; go_wp2
    go_ret
    exact ⟨rfl, hbel.1⟩
  · go_enter Tryd.func3, Tryd.ntmps3
    go_wp2_with fail
    refine (hW0 _).mono ?_; rintro e w' ⟨rfl, rfl⟩; go_wp2_with fail
    refine (hT1 _).mono ?_; rintro e w' ⟨rfl, rfl⟩; go_wp2_with fail
    refine (hT2 _).mono ?_; rintro e w' ⟨rfl, rfl⟩; go_wp2_with fail
    refine (hW3 _).mono ?_; rintro e w' ⟨rfl, rfl⟩; go_wp2_with fail
    refine (h7 _).mono ?_; rintro e w1 ⟨rfl, hb⟩; have hbel := below_next (Below.refl w.heap.size w) (Nat.le_refl _) _ hb; clear hb; go_wp2_with fail
    refine (h8 _).mono ?_; rintro e w2 ⟨rfl, hb⟩; replace hbel := below_same hbel.1 hbel.2 hb; clear hb; go_wp2_with fail
    refine (h9 _).mono ?_; rintro e w2 ⟨rfl, hb⟩; replace hbel := below_same hbel.1 hbel.2 hb; clear hb; go_wp2_with fail
    refine (h10 _).mono ?_; rintro e w2 ⟨rfl, hb⟩; replace hbel := below_same hbel.1 hbel.2 hb; clear hb; go_wp2_with fail
    refine (h11 _).mono ?_; rintro e w2 ⟨rfl, hb⟩; replace hbel := below_same hbel.1 hbel.2 hb; clear hb; go_wp2_with fail
    refine (h12 _).mono ?_; rintro e w2 ⟨rfl, hb⟩; replace hbel := below_same hbel.1 hbel.2 hb; clear hb; go_wp2_with fail
    refine (h13 _).mono ?_; rintro e w2 ⟨rfl, hb⟩; replace hbel := below_same hbel.1 hbel.2 hb; clear hb; go_wp2_with fail
    refine (hB _).mono ?_; rintro e w2 ⟨rfl, hb⟩; replace hbel := below_same hbel.1 hbel.2 hb; clear hb; go_wp2_with fail
    refine (h14 _).mono ?_; rintro e w' ⟨rfl, rfl⟩; go_wp2_with fail
    refine (h15 _).mono ?_; rintro e w' ⟨rfl, rfl⟩; go_wp2_with fail
    refine (h16 _).mono ?_; rintro e w' ⟨rfl, rfl⟩; go_wp2_with fail
    refine (h14 _).mono ?_; rintro e w' ⟨rfl, rfl⟩; go_wp2_with fail
    refine (h15' _).mono ?_; rintro e w' ⟨rfl, rfl⟩; go_wp2_with fail
    refine (wakes_17.2.2.2 _).mono ?_; rintro e w2 ⟨rfl, hb⟩; replace hbel := below_same hbel.1 hbel.2 hb; clear hb; go_wp2
    go_ret
    exact ⟨rfl, hbel.1⟩
  · go_enter Tryd.func3, Tryd.ntmps3
    go_wp2_with fail
    refine (hT1 _).mono ?_; rintro e w' ⟨rfl, rfl⟩; go_wp2_with fail
    refine (hT2 _).mono ?_; rintro e w' ⟨rfl, rfl⟩; go_wp2_with fail
    refine (h7 _).mono ?_; rintro e w1 ⟨rfl, hb⟩; have hbel := below_same (Below.refl w.heap.size w) (Nat.le_refl _) hb; clear hb; go_wp2_with fail
    refine (h8 _).mono ?_; rintro e w2 ⟨rfl, hb⟩; replace hbel := below_same hbel.1 hbel.2 hb; clear hb; go_wp2_with fail
    refine (h9 _).mono ?_; rintro e w2 ⟨rfl, hb⟩; replace hbel := below_same hbel.1 hbel.2 hb; clear hb; go_wp2_with fail
    refine (h10 _).mono ?_; rintro e w2 ⟨rfl, hb⟩; replace hbel := below_same hbel.1 hbel.2 hb; clear hb; go_wp2_with fail
    refine (h11 _).mono ?_; rintro e w2 ⟨rfl, hb⟩; replace hbel := below_same hbel.1 hbel.2 hb; clear hb; go_wp2_with fail
    refine (h12 _).mono ?_; rintro e w2 ⟨rfl, hb⟩; replace hbel := below_same hbel.1 hbel.2 hb; clear hb; go_wp2_with fail
    refine (h13 _).mono ?_; rintro e w2 ⟨rfl, hb⟩; replace hbel := below_same hbel.1 hbel.2 hb; clear hb; go_wp2_with fail
    refine (hB _).mono ?_; rintro e w2 ⟨rfl, hb⟩; replace hbel := below_same hbel.1 hbel.2 hb; clear hb; go_wp2_with fail
    refine (h14 _).mono ?_; rintro e w' ⟨rfl, rfl⟩; go_wp2_with fail
    refine (h15 _).mono ?_; rintro e w' ⟨rfl, rfl⟩; go_wp2_with fail
    refine (h16 _).mono ?_; rintro e w' ⟨rfl, rfl⟩; go_wp2_with fail
    refine (h14 _).mono ?_; rintro e w' ⟨rfl, rfl⟩; go_wp2_with fail
    refine (h15' _).mono ?_; rintro e w' ⟨rfl, rfl⟩; go_wp2_with fail
    refine (wakes_17.2.2.2 _).mono ?_; rintro e w2 ⟨rfl, hb⟩; replace hbel := below_same hbel.1 hbel.2 hb; clear hb; go_wp2
    go_ret
    exact ⟨rfl, hbel.1⟩
  · go_enter Tryd.func3, Tryd.ntmps3
    go_wp2_with fail
    refine (hT1 _).mono ?_; rintro e w' ⟨rfl, rfl⟩; go_wp2_with fail
    refine (hT2 _).mono ?_; rintro e w' ⟨rfl, rfl⟩; go_wp2_with fail
    refine (h7 _).mono ?_; rintro e w1 ⟨rfl, hb⟩; have hbel := below_same (Below.refl w.heap.size w) (Nat.le_refl _) hb; clear hb; go_wp2_with fail
    refine (h8 _).mono ?_; rintro e w2 ⟨rfl, hb⟩; replace hbel := below_same hbel.1 hbel.2 hb; clear hb; go_wp2_with fail
    refine (h9 _).mono ?_; rintro e w2 ⟨rfl, hb⟩; replace hbel := below_same hbel.1 hbel.2 hb; clear hb; go_wp2_with fail
    refine (h10 _).mono ?_; rintro e w2 ⟨rfl, hb⟩; replace hbel := below_same hbel.1 hbel.2 hb; clear hb; go_wp2_with fail
    refine (h11 _).mono ?_; rintro e w2 ⟨rfl, hb⟩; replace hbel := below_same hbel.1 hbel.2 hb; clear hb; go_wp2_with fail
    refine (h12 _).mono ?_; rintro e w2 ⟨rfl, hb⟩; replace hbel := below_same hbel.1 hbel.2 hb; clear hb; go_wp2_with fail
    refine (h13 _).mono ?_; rintro e w2 ⟨rfl, hb⟩; replace hbel := below_same hbel.1 hbel.2 hb; clear hb; go_wp2_with fail
    refine (hB _).mono ?_; rintro e w2 ⟨rfl, hb⟩; replace hbel := below_same hbel.1 hbel.2 hb; clear hb; go_wp2_with fail
    refine (h14 _).mono ?_; rintro e w' ⟨rfl, rfl⟩; go_wp2_with fail
    refine (h15 _).mono ?_; rintro e w' ⟨rfl, rfl⟩; go_wp2_with fail
    refine (h16 _).mono ?_; rintro e w' ⟨rfl, rfl⟩; go_wp2_with fail
    refine (h14 _).mono ?_; rintro e w' ⟨rfl, rfl⟩; go_wp2_with fail
    refine (h15' _).mono ?_; rintro e w' ⟨rfl, rfl⟩; go_wp2_with fail
    refine (wakes_17.2.2.2 _).mono ?_; rintro e w2 ⟨rfl, hb⟩; replace hbel := below_same hbel.1 hbel.2 hb; clear hb; go_wp2
    go_ret
    exact ⟨rfl, hbel.1⟩
  · go_enter Tryd.func3, Tryd.ntmps3
    go_wp2_with fail
    refine (hT1 _).mono ?_; rintro e w' ⟨rfl, rfl⟩; go_wp2_with fail
    refine (hT2 _).mono ?_; rintro e w' ⟨rfl, rfl⟩; go_wp2_with fail
    refine (hW3 _).mono ?_; rintro e w' ⟨rfl, rfl⟩; go_wp2_with fail
    refine (h7 _).mono ?_; rintro e w1 ⟨rfl, hb⟩; have hbel := below_next (Below.refl w.heap.size w) (Nat.le_refl _) _ hb; clear hb; go_wp2_with fail
    refine (h8 _).mono ?_; rintro e w2 ⟨rfl, hb⟩; replace hbel := below_same hbel.1 hbel.2 hb; clear hb; go_wp2_with fail
    refine (h9 _).mono ?_; rintro e w2 ⟨rfl, hb⟩; replace hbel := below_same hbel.1 hbel.2 hb; clear hb; go_wp2_with fail
    refine (h10 _).mono ?_; rintro e w2 ⟨rfl, hb⟩; replace hbel := below_same hbel.1 hbel.2 hb; clear hb; go_wp2_with fail
    refine (h11 _).mono ?_; rintro e w2 ⟨rfl, hb⟩; replace hbel := below_same hbel.1 hbel.2 hb; clear hb; go_wp2_with fail
    refine (h12 _).mono ?_; rintro e w2 ⟨rfl, hb⟩; replace hbel := below_same hbel.1 hbel.2 hb; clear hb; go_wp2_with fail
    refine (h13 _).mono ?_; rintro e w2 ⟨rfl, hb⟩; replace hbel := below_same hbel.1 hbel.2 hb; clear hb; go_wp2_with fail
    refine (hB _).mono ?_; rintro e w2 ⟨rfl, hb⟩; replace hbel := below_same hbel.1 hbel.2 hb; clear hb; go_wp2_with fail
    refine (h14 _).mono ?_; rintro e w' ⟨rfl, rfl⟩; go_wp2_with fail
    refine (h15 _).mono ?_; rintro e w' ⟨rfl, rfl⟩; go_wp2_with fail
    refine (h16 _).mono ?_; rintro e w' ⟨rfl, rfl⟩; go_wp2_with fail
    refine (h14 _).mono ?_; rintro e w' ⟨rfl, rfl⟩; go_wp2_with fail
    refine (h15' _).mono ?_; rintro e w' ⟨rfl, rfl⟩; go_wp2_with fail
    refine (wakes_17.2.2.2 _).mono ?_; rintro e w2 ⟨rfl, hb⟩; replace hbel := below_same hbel.1 hbel.2 hb; clear hb; go_wp2
    go_ret
    exact ⟨rfl, hbel.1⟩
  · go_enter Tryd.func3, Tryd.ntmps3
    go_wp2_with fail
    refine (hT1 _).mono ?_; rintro e w' ⟨rfl, rfl⟩; go_wp2_with fail
    refine (hT2 _).mono ?_; rintro e w' ⟨rfl, rfl⟩; go_wp2_with fail
    refine (hW3 _).mono ?_; rintro e w' ⟨rfl, rfl⟩; go_wp2_with fail
    refine (h7 _).mono ?_; rintro e w1 ⟨rfl, hb⟩; have hbel := below_next (Below.refl w.heap.size w) (Nat.le_refl _) _ hb; clear hb; go_wp2_with fail
    refine (h8 _).mono ?_; rintro e w2 ⟨rfl, hb⟩; replace hbel := below_same hbel.1 hbel.2 hb; clear hb; go_wp2_with fail
    refine (h9 _).mono ?_; rintro e w2 ⟨rfl, hb⟩; replace hbel := below_same hbel.1 hbel.2 hb; clear hb; go_wp2_with fail
    refine (h10 _).mono ?_; rintro e w2 ⟨rfl, hb⟩; replace hbel := below_same hbel.1 hbel.2 hb; clear hb; go_wp2_with fail
    refine (h11 _).mono ?_; rintro e w2 ⟨rfl, hb⟩; replace hbel := below_same hbel.1 hbel.2 hb; clear hb; go_wp2_with fail
    refine (h12 _).mono ?_; rintro e w2 ⟨rfl, hb⟩; replace hbel := below_same hbel.1 hbel.2 hb; clear hb; go_wp2_with fail
    refine (h13 _).mono ?_; rintro e w2 ⟨rfl, hb⟩; replace hbel := below_same hbel.1 hbel.2 hb; clear hb; go_wp2_with fail
    refine (hB _).mono ?_; rintro e w2 ⟨rfl, hb⟩; replace hbel := below_same hbel.1 hbel.2 hb; clear hb; go_wp2_with fail
    refine (h14 _).mono ?_; rintro e w' ⟨rfl, rfl⟩; go_wp2_with fail
    refine (h15 _).mono ?_; rintro e w' ⟨rfl, rfl⟩; go_wp2_with fail
    refine (h16 _).mono ?_; rintro e w' ⟨rfl, rfl⟩; go_wp2_with fail
    refine (h14 _).mono ?_; rintro e w' ⟨rfl, rfl⟩; go_wp2_with fail
    refine (h15' _).mono ?_; rintro e w' ⟨rfl, rfl⟩; go_wp2_with fail
    refine (wakes_17.2.2.2 _).mono ?_; rintro e w2 ⟨rfl, hb⟩; replace hbel := below_same hbel.1 hbel.2 hb; clear hb; go_wp2
    go_ret
    exact ⟨rfl, hbel.1⟩
  · go_enter Tryd.func3, Tryd.ntmps3
    go_wp2_with fail
    refine (hT1 _).mono ?_; rintro e w' ⟨rfl, rfl⟩; go_wp2_with fail
    refine (hT2 _).mono ?_; rintro e w' ⟨rfl, rfl⟩; go_wp2_with fail
    refine (hW3 _).mono ?_; rintro e w' ⟨rfl, rfl⟩; go_wp2_with fail
    refine (h7 _).mono ?_; rintro e w1 ⟨rfl, hb⟩; have hbel := below_next (Below.refl w.heap.size w) (Nat.le_refl _) _ hb; clear hb; go_wp2_with fail
    refine (h8 _).mono ?_; rintro e w2 ⟨rfl, hb⟩; replace hbel := below_same hbel.1 hbel.2 hb; clear hb; go_wp2_with fail
    refine (h9 _).mono ?_; rintro e w2 ⟨rfl, hb⟩; replace hbel := below_same hbel.1 hbel.2 hb; clear hb; go_wp2_with fail
    refine (h10 _).mono ?_; rintro e w2 ⟨rfl, hb⟩; replace hbel := below_same hbel.1 hbel.2 hb; clear hb; go_wp2_with fail
    refine (h11 _).mono ?_; rintro e w2 ⟨rfl, hb⟩; replace hbel := below_same hbel.1 hbel.2 hb; clear hb; go_wp2_with fail
    refine (h12 _).mono ?_; rintro e w2 ⟨rfl, hb⟩; replace hbel := below_same hbel.1 hbel.2 hb; clear hb; go_wp2_with fail
    refine (h13 _).mono ?_; rintro e w2 ⟨rfl, hb⟩; replace hbel := below_same hbel.1 hbel.2 hb; clear hb; go_wp2_with fail
    refine (hB _).mono ?_; rintro e w2 ⟨rfl, hb⟩; replace hbel := below_same hbel.1 hbel.2 hb; clear hb; go_wp2_with fail
    refine (h14 _).mono ?_; rintro e w' ⟨rfl, rfl⟩; go_wp2_with fail
    refine (h15 _).mono ?_; rintro e w' ⟨rfl, rfl⟩; go_wp2_with fail
    refine (h16 _).mono ?_; rintro e w' ⟨rfl, rfl⟩; go_wp2_with fail
    refine (h14 _).mono ?_; rintro e w' ⟨rfl, rfl⟩; go_wp2_with fail
    refine (h15' _).mono ?_; rintro e w' ⟨rfl, rfl⟩; go_wp2_with fail
    refine (wakes_17.2.2.2 _).mono ?_; rintro e w2 ⟨rfl, hb⟩; replace hbel := below_same hbel.1 hbel.2 hb; clear hb; go_wp2
    go_ret
    exact ⟨rfl, hbel.1⟩
  · go_enter Tryd.func3, Tryd.ntmps3
    go_wp2_with fail
    refine (hT1 _).mono ?_; rintro e w' ⟨rfl, rfl⟩; go_wp2_with fail
    refine (hT2 _).mono ?_; rintro e w' ⟨rfl, rfl⟩; go_wp2_with fail
    refine (hW3 _).mono ?_; rintro e w' ⟨rfl, rfl⟩; go_wp2_with fail
    refine (h7 _).mono ?_; rintro e w1 ⟨rfl, hb⟩; have hbel := below_next (Below.refl w.heap.size w) (Nat.le_refl _) _ hb; clear hb; go_wp2_with fail
    refine (h8 _).mono ?_; rintro e w2 ⟨rfl, hb⟩; replace hbel := below_same hbel.1 hbel.2 hb; clear hb; go_wp2_with fail
    refine (h9 _).mono ?_; rintro e w2 ⟨rfl, hb⟩; replace hbel := below_same hbel.1 hbel.2 hb; clear hb; go_wp2_with fail
    refine (h10 _).mono ?_; rintro e w2 ⟨rfl, hb⟩; replace hbel := below_same hbel.1 hbel.2 hb; clear hb; go_wp2_with fail
    refine (h11 _).mono ?_; rintro e w2 ⟨rfl, hb⟩; replace hbel := below_same hbel.1 hbel.2 hb; clear hb; go_wp2_with fail
    refine (h12 _).mono ?_; rintro e w2 ⟨rfl, hb⟩; replace hbel := below_same hbel.1 hbel.2 hb; clear hb; go_wp2_with fail
    refine (h13 _).mono ?_; rintro e w2 ⟨rfl, hb⟩; replace hbel := below_same hbel.1 hbel.2 hb; clear hb; go_wp2_with fail
    refine (hB _).mono ?_; rintro e w2 ⟨rfl, hb⟩; replace hbel := below_same hbel.1 hbel.2 hb; clear hb; go_wp2_with fail
    refine (h14 _).mono ?_; rintro e w' ⟨rfl, rfl⟩; go_wp2_with fail
    refine (h15 _).mono ?_; rintro e w' ⟨rfl, rfl⟩; go_wp2_with fail
    refine (h16 _).mono ?_; rintro e w' ⟨rfl, rfl⟩; go_wp2_with fail
    refine (h14 _).mono ?_; rintro e w' ⟨rfl, rfl⟩; go_wp2_with fail
    refine (h15' _).mono ?_; rintro e w' ⟨rfl, rfl⟩; go_wp2_with fail
    refine (wakes_17.2.2.2 _).mono ?_; rintro e w2 ⟨rfl, hb⟩; replace hbel := below_same hbel.1 hbel.2 hb; clear hb; go_wp2
    go_ret
    exact ⟨rfl, hbel.1⟩
  · go_enter Tryd.func3, Tryd.ntmps3
    go_wp2_with fail
    refine (hT1 _).mono ?_; rintro e w' ⟨rfl, rfl⟩; go_wp2_with fail
    refine (hT2 _).mono ?_; rintro e w' ⟨rfl, rfl⟩; go_wp2_with fail
    refine (hW3 _).mono ?_; rintro e w' ⟨rfl, rfl⟩; go_wp2_with fail
    refine (h7 _).mono ?_; rintro e w1 ⟨rfl, hb⟩; have hbel := below_next (Below.refl w.heap.size w) (Nat.le_refl _) _ hb; clear hb; go_wp2_with fail
    refine (h8 _).mono ?_; rintro e w2 ⟨rfl, hb⟩; replace hbel := below_same hbel.1 hbel.2 hb; clear hb; go_wp2_with fail
    refine (h9 _).mono ?_; rintro e w2 ⟨rfl, hb⟩; replace hbel := below_same hbel.1 hbel.2 hb; clear hb; go_wp2_with fail
    refine (h10 _).mono ?_; rintro e w2 ⟨rfl, hb⟩; replace hbel := below_same hbel.1 hbel.2 hb; clear hb; go_wp2_with fail
    refine (h11 _).mono ?_; rintro e w2 ⟨rfl, hb⟩; replace hbel := below_same hbel.1 hbel.2 hb; clear hb; go_wp2_with fail
    refine (h12 _).mono ?_; rintro e w2 ⟨rfl, hb⟩; replace hbel := below_same hbel.1 hbel.2 hb; clear hb; go_wp2_with fail
    refine (h13 _).mono ?_; rintro e w2 ⟨rfl, hb⟩; replace hbel := below_same hbel.1 hbel.2 hb; clear hb; go_wp2_with fail
    refine (hB _).mono ?_; rintro e w2 ⟨rfl, hb⟩; replace hbel := below_same hbel.1 hbel.2 hb; clear hb; go_wp2_with fail
    refine (h14 _).mono ?_; rintro e w' ⟨rfl, rfl⟩; go_wp2_with fail
    refine (h15 _).mono ?_; rintro e w' ⟨rfl, rfl⟩; go_wp2_with fail
    refine (h16 _).mono ?_; rintro e w' ⟨rfl, rfl⟩; go_wp2_with fail
    refine (h14 _).mono ?_; rintro e w' ⟨rfl, rfl⟩; go_wp2_with fail
    refine (h15' _).mono ?_; rintro e w' ⟨rfl, rfl⟩; go_wp2_with fail
    refine (wakes_17.2.2.2 _).mono ?_; rintro e w2 ⟨rfl, hb⟩; replace hbel := below_same hbel.1 hbel.2 hb; clear hb; go_wp2
    go_ret
    exact ⟨rfl, hbel.1⟩
  · go_enter Tryd.func3, Tryd.ntmps3
    go_wp2_with fail
    refine (hT1 _).mono ?_; rintro e w' ⟨rfl, rfl⟩; go_wp2_with fail
    refine (hT2 _).mono ?_; rintro e w' ⟨rfl, rfl⟩; go_wp2_with fail
    refine (hW3 _).mono ?_; rintro e w' ⟨rfl, rfl⟩; go_wp2_with fail
    refine (h7 _).mono ?_; rintro e w1 ⟨rfl, hb⟩; have hbel := below_next (Below.refl w.heap.size w) (Nat.le_refl _) _ hb; clear hb; go_wp2_with fail
    refine (h8 _).mono ?_; rintro e w2 ⟨rfl, hb⟩; replace hbel := below_same hbel.1 hbel.2 hb; clear hb; go_wp2_with fail
    refine (h9 _).mono ?_; rintro e w2 ⟨rfl, hb⟩; replace hbel := below_same hbel.1 hbel.2 hb; clear hb; go_wp2_with fail
    refine (h10 _).mono ?_; rintro e w2 ⟨rfl, hb⟩; replace hbel := below_same hbel.1 hbel.2 hb; clear hb; go_wp2_with fail
    refine (h11 _).mono ?_; rintro e w2 ⟨rfl, hb⟩; replace hbel := below_same hbel.1 hbel.2 hb; clear hb; go_wp2_with fail
    refine (h12 _).mono ?_; rintro e w2 ⟨rfl, hb⟩; replace hbel := below_same hbel.1 hbel.2 hb; clear hb; go_wp2_with fail
    refine (h13 _).mono ?_; rintro e w2 ⟨rfl, hb⟩; replace hbel := below_same hbel.1 hbel.2 hb; clear hb; go_wp2_with fail
    refine (hB _).mono ?_; rintro e w2 ⟨rfl, hb⟩; replace hbel := below_same hbel.1 hbel.2 hb; clear hb; go_wp2_with fail
    refine (h14 _).mono ?_; rintro e w' ⟨rfl, rfl⟩; go_wp2_with fail
    refine (h15 _).mono ?_; rintro e w' ⟨rfl, rfl⟩; go_wp2_with fail
    refine (h16 _).mono ?_; rintro e w' ⟨rfl, rfl⟩; go_wp2_with fail
    refine (h14 _).mono ?_; rintro e w' ⟨rfl, rfl⟩; go_wp2_with fail
    refine (h15' _).mono ?_; rintro e w' ⟨rfl, rfl⟩; go_wp2_with fail
    refine (wakes_17.2.2.2 _).mono ?_; rintro e w2 ⟨rfl, hb⟩; replace hbel := below_same hbel.1 hbel.2 hb; clear hb; go_wp2
    go_ret
    exact ⟨rfl, hbel.1⟩

end Go.Proofs.YtnindodkcfkgoaaDoor.pathTells
