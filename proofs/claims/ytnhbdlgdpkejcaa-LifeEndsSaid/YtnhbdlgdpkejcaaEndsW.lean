/- The walk of LifeEnds: the Go text returns true, and writes nothing that was there. -/
import Derived.Test.YtnhbdlgdpkejcaaK3
namespace Go.Proofs.Ytnhbdlgdpkejcaa.lifeEnds
open Go.ChangeShapes Go.WideShapes Go.ChangeAt Go.RowKit
set_option linter.unusedVariables false
def row (k : Nat) : Nat → Int
  | 0 => 0
  | j + 1 => row k j + if mayB k j = true then 1 else 0
def tot : Nat → Int
  | 0 => 0
  | k + 1 => tot k + row k 9
theorem row_bd (k j : Nat) : 0 ≤ row k j ∧ row k j ≤ j := by
  induction j with
  | zero => exact ⟨by simp [row], by simp [row]⟩
  | succ j ih => simp only [row]; split <;> omega
theorem tot_bd (k : Nat) : 0 ≤ tot k ∧ tot k ≤ 9 * k := by
  induction k with
  | zero => exact ⟨by simp [tot], by simp [tot]⟩
  | succ k ih => have := row_bd k 9; simp only [tot]; omega
theorem tot_9 : tot 9 = 10 := by decide +kernel
theorem may_facts (k j : Nat) (h : mayB k j = true) : overB (k : Int) = false ∧ ¬ (j : Int) ≤ k ∧ ((j : Int) == 1) = false ∧ ((k : Int) == 0) = false ∧ ¬ (7 < (j : Int)) := by
  unfold mayB overB at *
  split at h
  · simp at h ⊢; omega
  · split at h
    · simp at h ⊢; omega
    · simp at h
theorem name_empty (k : Nat) (h : k < 9) : ((nameS (k : Int)).toList.isEmpty) = decide ((k : Int) < 1 ∨ 7 < (k : Int)) := by
  obtain h | h | h | h | h | h | h | h | h : k = 0 ∨ k = 1 ∨ k = 2 ∨ k = 3 ∨ k = 4 ∨ k = 5 ∨ k = 6 ∨ k = 7 ∨ k = 8 := by omega
  all_goals
    subst h
    decide +kernel
theorem outer_facts (k : Nat) (h : k < 9) : ∃ o : Bool, overB (k : Int) = o ∧ (o = true → 3 ≤ (k : Int) ∧ (k : Int) ≤ 7) ∧ (o = false → (k : Int) < 3 ∨ 7 < (k : Int)) ∧ mayB 1 (k : Int) = (decide ((k : Int) = 2) || o) ∧ True ∧ True := by
  refine ⟨overB k, rfl, ?_, ?_, ?_, trivial, trivial⟩
  · intro ho; simp [overB] at ho; omega
  · intro ho; simp [overB] at ho; omega
  · simp [mayB]; rfl

set_option maxRecDepth 100000 in
set_option maxHeartbeats 1000000 in
theorem walk (a0 : Int) (a1 : Int) (w : World) (b0 : -9223372036854775808 ≤ a0 ∧ a0 ≤ 9223372036854775807) (b1 : -9223372036854775808 ≤ a1 ∧ a1 ≤ 9223372036854775807) :
    Calls Try.prog 5 #[.int .i64 a0, .int .i64 a1] w fun e w' => e = .returned (.bool true) ∧ Below w.heap.size w w' := by
  go_enter Try.func5, Try.ntmps5
  go_wp2_with fail
  go_loop [5, 6] (fun n s => ∃ k : Nat, k ≤ 9 ∧ s = .int .i64 k ∧ n = .int .i64 (tot k)) (fun _ s => 9 - (intOf s).toNat)
  case atStart => exact ⟨0, by omega, rfl, rfl⟩
  case round =>
    obtain ⟨k, hk, rfl, rfl⟩ := hrel
    have ht := tot_bd k
    by_cases hlt : k < 9
    · go_wp2_with fail
      go_loop [5, 7] (fun n t => ∃ j : Nat, j ≤ 9 ∧ t = .int .i64 j ∧ n = .int .i64 (tot k + row k j)) (fun _ t => 9 - (intOf t).toNat)
      case atStart => exact ⟨0, by omega, rfl, by simp [row]⟩
      case round =>
        obtain ⟨j, hj, rfl, rfl⟩ := hrel
        have hr := row_bd k j
        by_cases hjl : j < 9
        · by_cases hm : mayB k j = true
          · obtain ⟨f1, f2, f3, f4, f5⟩ := may_facts k j hm
            have Hs : Hid (row k (j + 1) = row k j + 1) := by show _ = _; simp only [row]; rw [if_pos hm]
            go_wp2_with (first | (go_at_call 15; refine (May_any _ _ _).mono ?_; rintro e w' ⟨rfl, rfl⟩) | (go_at_call 13; refine (Over_any _ _).mono ?_; rintro e w' ⟨rfl, rfl⟩))
            go_round
            case rel => exact ⟨j + 1, by omega, by go_num, by rw [Hs.out]; go_num⟩
            case measure => simp [intOf]; omega
          · have hm' : mayB k j = false := by simpa using hm
            have Hs : Hid (row k (j + 1) = row k j) := by show _ = _; simp only [row]; rw [if_neg hm]; omega
            clear hm
            go_wp2_with (first | (go_at_call 15; refine (May_any _ _ _).mono ?_; rintro e w' ⟨rfl, rfl⟩) | (go_at_call 13; refine (Over_any _ _).mono ?_; rintro e w' ⟨rfl, rfl⟩))
            go_round
            case rel => exact ⟨j + 1, by omega, by go_num, by rw [Hs.out]⟩
            case measure => simp [intOf]; omega
        · have h9 : j = 9 := by omega
          subst h9
          have Hs : Hid (tot (k + 1) = tot k + row k 9) := rfl
          have hne := name_empty k hlt
          have hmay : mayB 1 (k : Int) = (((k : Int) == 2) || overB (k : Int)) := by simp [mayB]
          have Hmay := Lib.hid hmay
          have Hne := Lib.hid hne
          clear hmay hne
          obtain hk1 | hk1 | hk1 | hk1 | hk1 : k ≤ 0 ∨ (1 ≤ k ∧ k ≤ 1) ∨ (2 ≤ k ∧ k ≤ 2) ∨ (3 ≤ k ∧ k ≤ 7) ∨ 8 ≤ k := by omega
          · have _p : (k : Int) < 1 := by omega
            have o1 : overB (k : Int) = false := over_no (by omega)
            have o3 : ((k : Int) == 2) = false := by simp; omega
            have o2 : mayB 1 (k : Int) = false := by rw [Hmay.out, o1, o3]; rfl
            have o4 : ((nameS (k : Int)).toList.isEmpty) = true := by rw [Hne.out]; simp; omega
            have o5 : (nameS (k : Int)).toList = [] := by simpa using o4
            go_wp2_with (first | (go_at_call 15; refine (May_any _ _ _).mono ?_; rintro e w' ⟨rfl, rfl⟩) | (go_at_call 13; refine (Over_any _ _).mono ?_; rintro e w' ⟨rfl, rfl⟩) | (go_at_call 16; refine (Name_any _ _).mono ?_; rintro e w' ⟨rfl, rfl⟩))
            go_round
            case rel => exact ⟨k + 1, by omega, by go_num, by rw [Hs.out]⟩
            case measure => simp [intOf]; omega
          · have _p : 1 ≤ (k : Int) ∧ (k : Int) ≤ 1 := by omega
            have o1 : overB (k : Int) = false := over_no (by omega)
            have o3 : ((k : Int) == 2) = false := by simp; omega
            have o2 : mayB 1 (k : Int) = false := by rw [Hmay.out, o1, o3]; rfl
            have o4 : ((nameS (k : Int)).toList.isEmpty) = false := by rw [Hne.out]; simp; omega
            have o5 : (nameS (k : Int)).toList ≠ [] := by intro e; rw [e] at o4; simp at o4
            go_wp2_with (first | (go_at_call 15; refine (May_any _ _ _).mono ?_; rintro e w' ⟨rfl, rfl⟩) | (go_at_call 13; refine (Over_any _ _).mono ?_; rintro e w' ⟨rfl, rfl⟩) | (go_at_call 16; refine (Name_any _ _).mono ?_; rintro e w' ⟨rfl, rfl⟩))
            go_round
            case rel => exact ⟨k + 1, by omega, by go_num, by rw [Hs.out]⟩
            case measure => simp [intOf]; omega
          · have _p : 2 ≤ (k : Int) ∧ (k : Int) ≤ 2 := by omega
            have o1 : overB (k : Int) = false := over_no (by omega)
            have o3 : ((k : Int) == 2) = true := by simp; omega
            have o2 : mayB 1 (k : Int) = true := by rw [Hmay.out, o1, o3]; rfl
            have o4 : ((nameS (k : Int)).toList.isEmpty) = false := by rw [Hne.out]; simp; omega
            have o5 : (nameS (k : Int)).toList ≠ [] := by intro e; rw [e] at o4; simp at o4
            go_wp2_with (first | (go_at_call 15; refine (May_any _ _ _).mono ?_; rintro e w' ⟨rfl, rfl⟩) | (go_at_call 13; refine (Over_any _ _).mono ?_; rintro e w' ⟨rfl, rfl⟩) | (go_at_call 16; refine (Name_any _ _).mono ?_; rintro e w' ⟨rfl, rfl⟩))
            go_round
            case rel => exact ⟨k + 1, by omega, by go_num, by rw [Hs.out]⟩
            case measure => simp [intOf]; omega
          · have _p : 3 ≤ (k : Int) ∧ (k : Int) ≤ 7 := by omega
            have o1 : overB (k : Int) = true := over_yes (by omega) (by omega)
            have o3 : ((k : Int) == 2) = false := by simp; omega
            have o2 : mayB 1 (k : Int) = true := by rw [Hmay.out, o1, o3]; rfl
            have o4 : ((nameS (k : Int)).toList.isEmpty) = false := by rw [Hne.out]; simp; omega
            have o5 : (nameS (k : Int)).toList ≠ [] := by intro e; rw [e] at o4; simp at o4
            go_wp2_with (first | (go_at_call 15; refine (May_any _ _ _).mono ?_; rintro e w' ⟨rfl, rfl⟩) | (go_at_call 13; refine (Over_any _ _).mono ?_; rintro e w' ⟨rfl, rfl⟩) | (go_at_call 16; refine (Name_any _ _).mono ?_; rintro e w' ⟨rfl, rfl⟩))
            go_round
            case rel => exact ⟨k + 1, by omega, by go_num, by rw [Hs.out]⟩
            case measure => simp [intOf]; omega
          · have _p : 8 ≤ (k : Int) := by omega
            have o1 : overB (k : Int) = false := over_no (by omega)
            have o3 : ((k : Int) == 2) = false := by simp; omega
            have o2 : mayB 1 (k : Int) = false := by rw [Hmay.out, o1, o3]; rfl
            have o4 : ((nameS (k : Int)).toList.isEmpty) = true := by rw [Hne.out]; simp; omega
            have o5 : (nameS (k : Int)).toList = [] := by simpa using o4
            go_wp2_with (first | (go_at_call 15; refine (May_any _ _ _).mono ?_; rintro e w' ⟨rfl, rfl⟩) | (go_at_call 13; refine (Over_any _ _).mono ?_; rintro e w' ⟨rfl, rfl⟩) | (go_at_call 16; refine (Name_any _ _).mono ?_; rintro e w' ⟨rfl, rfl⟩))
            go_round
            case rel => exact ⟨k + 1, by omega, by go_num, by rw [Hs.out]⟩
            case measure => simp [intOf]; omega
    · have h9 : k = 9 := by omega
      subst h9
      rw [tot_9]
      by_cases hr : 1 ≤ a0 ∧ a0 ≤ 7
      · obtain ⟨hr1, hr2⟩ := hr
        go_wp2_with (first | (go_at_call 11; refine (wakes9_any _).mono ?_; rintro e w' ⟨rfl, rfl⟩))
        go_ret
        exact ⟨rfl, Below.refl _ _⟩
      · have o1 : overB a0 = false := over_no (by omega)
        have o2 : mayB a0 a1 = false := by
          unfold mayB; rw [if_neg (by omega), if_neg (by omega)]
        have o4 : nameS a0 = ⟨#[]⟩ := nameS_no a0 (by omega)
        by_cases hr1 : 1 ≤ a0
        · have hr2 : ¬ a0 ≤ 7 := by omega
          go_wp2_with (first | (go_at_call 11; refine (wakes9_any _).mono ?_; rintro e w' ⟨rfl, rfl⟩) | (go_at_call 15; refine (May_any _ _ _).mono ?_; rintro e w' ⟨rfl, rfl⟩) | (go_at_call 13; refine (Over_any _ _).mono ?_; rintro e w' ⟨rfl, rfl⟩) | (go_at_call 16; refine (Name_any _ _).mono ?_; rintro e w' ⟨rfl, rfl⟩))
          go_ret
          exact ⟨rfl, Below.refl _ _⟩
        · go_wp2_with (first | (go_at_call 11; refine (wakes9_any _).mono ?_; rintro e w' ⟨rfl, rfl⟩) | (go_at_call 15; refine (May_any _ _ _).mono ?_; rintro e w' ⟨rfl, rfl⟩) | (go_at_call 13; refine (Over_any _ _).mono ?_; rintro e w' ⟨rfl, rfl⟩) | (go_at_call 16; refine (Name_any _ _).mono ?_; rintro e w' ⟨rfl, rfl⟩))
          go_ret
          exact ⟨rfl, Below.refl _ _⟩

end Go.Proofs.Ytnhbdlgdpkejcaa.lifeEnds
