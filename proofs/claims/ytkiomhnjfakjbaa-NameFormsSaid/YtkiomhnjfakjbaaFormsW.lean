/- The walk of NameForms: the Go text returns true, and writes nothing that was there. -/
import Derived.Test.YtkiomhnjfakjbaaAll
namespace Go.Proofs.Ytkiomhnjfakjbaa.nameForms
open Go.ChangeShapes Go.WideShapes Go.ChangeAt Go.RowKit
set_option linter.unusedVariables false
theorem wakes_any (w : World) :
    Calls Try.prog 11 #[] w fun e w' => e = .returned (.bool true) ∧ w = w' := by
  have r1 : rightB [] = false := by decide
  have r2 : rightB [97, 49] = true := by decide
  go_enter Try.func11, Try.ntmps11
  go_wp2_with (go_at_call 10; refine (Right_any _ _ (by decide)).mono ?_; rintro e w' ⟨rfl, rfl⟩)
  go_ret
  exact ⟨rfl, rfl⟩
theorem sz1 : ∀ s ∈ [(⟨#[97]⟩ : ByteArray), ⟨#[98]⟩], s.size ≤ maxLen := by decide +kernel
theorem sz2 : ∀ s ∈ [(⟨#[97]⟩ : ByteArray), ⟨#[97]⟩], s.size ≤ maxLen := by decide +kernel
theorem sz3 : ∀ s ∈ [(⟨#[97]⟩ : ByteArray), ⟨#[]⟩], s.size ≤ maxLen := by decide +kernel
theorem piece (m : Nat) (h : m < 8) : (((⟨#[97, 98, 99, 122, 48, 49, 56, 57]⟩ : ByteArray).extract m 8).extract 0 1).size = 1 ∧ (((⟨#[97, 98, 99, 122, 48, 49, 56, 57]⟩ : ByteArray).extract m 8).extract 0 1).data.toList.all plU = true := by
  obtain h | h | h | h | h | h | h | h : m = 0 ∨ m = 1 ∨ m = 2 ∨ m = 3 ∨ m = 4 ∨ m = 5 ∨ m = 6 ∨ m = 7 := by omega
  all_goals
    subst h
    decide +kernel
theorem snoc_ok (sb p : ByteArray) (k : Nat) (h1 : sb.size = k) (h2 : sb.data.toList.all plU = true) (h3 : p.size = 1 ∧ p.data.toList.all plU = true) : (sb ++ p).size = k + 1 ∧ (sb ++ p).data.toList.all plU = true := by
  refine ⟨by rw [ByteArray.size_append]; omega, ?_⟩
  rw [ByteArray.data_append, Array.toList_append, List.all_append, h2, h3.2]; rfl
set_option maxRecDepth 100000 in
set_option maxHeartbeats 6000000 in
theorem walk (a0 : Int) (a1 : Int) (w : World) (b0 : -9223372036854775808 ≤ a0 ∧ a0 ≤ 9223372036854775807) (b1 : 0 ≤ a1 ∧ a1 ≤ 255) :
    Calls Try.prog 6 #[.int .i64 a0, .int .u8 a1] w fun e w' => e = .returned (.bool true) ∧ Below w.heap.size w w' := by
  obtain ⟨u, rfl⟩ : ∃ u : UInt8, a1 = (u.toNat : Int) := ⟨a1.toNat.toUInt8, (u8_of a1 b1.1 b1.2).symm⟩
  have m1 := Int.emod_nonneg a0 (show (12 : Int) ≠ 0 by omega)
  have m2 := Int.emod_lt_of_pos a0 (show (0 : Int) < 12 by omega)
  obtain ⟨n, hn⟩ := Int.eq_ofNat_of_zero_le m1
  have Hn := Lib.hid hn
  rw [hn] at m2
  clear hn m1
  go_enter Try.func6, Try.ntmps6
  go_wp2_with fail
  refine (Within_any _ _ _ (by omega) (by omega) (by omega) (by omega)).mono ?_
  rintro e w' ⟨rfl, rfl⟩
  rw [Hn.out]
  go_wp2_with fail
  go_loop [5, 6] (fun s i => ∃ (k : Nat) (sb : ByteArray), k ≤ n ∧ i = .int .i64 k ∧ s = .string sb ∧ Hid (sb.size = k) ∧ Hid (sb.data.toList.all plU = true)) (fun _ i => n - (intOf i).toNat)
  case atStart => exact ⟨0, ⟨#[]⟩, by omega, rfl, rfl, rfl, rfl⟩
  case round =>
    obtain ⟨k, sb, hk, rfl, rfl, Hs, Ha⟩ := hrel
    by_cases hlt : k < n
    · have hsb : sb.size ≤ 12 := by have := Hs.out; omega
      have Hp := Lib.hid (snoc_ok sb _ k Hs.out Ha.out (piece (k % 8) (by omega)))
      go_wp2
      go_round
      case rel => exact ⟨k + 1, _, by omega, by go_num, rfl, Hp.out.1, Hp.out.2⟩
      case measure => simp [intOf]; omega
    · have hkn : k = n := by omega
      subst hkn
      have hsb : sb.size ≤ maxLen := by have := Hs.out; unfold maxLen; omega
      have e : sb.data.toList.length = k := by have := Hs.out; simpa using this
      have hr : rightB sb.data.toList = (decide (1 ≤ (k : Int)) && decide ((k : Int) ≤ 8)) := by
        unfold rightB; rw [Ha.out, e, Bool.and_true]
        congr 1 <;> (rw [decide_eq_decide]; omega)
      have Hr := Lib.hid hr
      clear hr e
      have hz : (97 ≤ (u.toNat : Int) ∧ (u.toNat : Int) ≤ 122) ∨ (48 ≤ (u.toNat : Int) ∧ (u.toNat : Int) ≤ 57) ∨ (u.toNat : Int) < 48 ∨ (58 ≤ (u.toNat : Int) ∧ (u.toNat : Int) < 97) ∨ 122 < (u.toNat : Int) := by omega
      have hk3 : (k : Int) < 1 ∨ (1 ≤ (k : Int) ∧ (k : Int) ≤ 8) ∨ 8 < (k : Int) := by omega
      have hcv : ∀ W : World, (convert 23 9 (.slice (some ⟨W.heap.size, 0, none⟩) 2 2)).run Try.prog (W.alloc (.cells #[.int .u8 97, .int .u8 (u.toNat : Int)] 5)) = .ok (.string ⟨#[97, u]⟩) (W.alloc (.cells #[.int .u8 97, .int .u8 (u.toNat : Int)] 5)) := fun W => by
        refine run_conv_reads (l := [97, u]) Try.underlying23 Try.underlying5 Try.underlying9 (B := (W.alloc (.cells #[.int .u8 97, .int .u8 (u.toNat : Int)] 5)).heap.size) ?_
        have h := reads_two W (.int .u8 97) (.int .u8 (u.toNat : Int)) 5
        have e : bytesV [97, u] = [.int .u8 97, .int .u8 (u.toNat : Int)] := by
          rfl
        rw [e]; exact h
      have hrc : rightB [97, u] = plB (u.toNat : Int) := by
        have : plU u = plB (u.toNat : Int) := by rfl
        unfold rightB
        simp only [List.all_cons, List.all_nil, this]
        have h97 : plU 97 = true := by decide
        rw [h97]; simp
      have q0 : allB [] = true := by decide
      have q1 : allB [⟨#[97]⟩, ⟨#[98]⟩] = true := by decide +kernel
      have q2 : allB [⟨#[97]⟩, ⟨#[97]⟩] = false := by decide +kernel
      have q3 : allB [⟨#[97]⟩, ⟨#[]⟩] = false := by decide +kernel
      rcases hk3 with hk3 | ⟨hk3, hk4⟩ | hk3
      · have hr : rightB sb.data.toList = false := by rw [Hr.out]; simp; omega
        rcases hz with ⟨hz1, hz2⟩ | ⟨hz1, hz2⟩ | hz1 | ⟨hz1, hz2⟩ | hz1
        · have hp : plB (u.toNat : Int) = true := plB_yes (by omega)
          go_wp2_with (first | (go_at_call 10; refine (Right_any _ _ ?_).mono ?_; (first | exact hsb | (simp [maxLen]; done) | (show 2 ≤ maxLen; decide)); rintro e w' ⟨rfl, rfl⟩) | (go_at_call 11; refine (wakes_any _).mono ?_; rintro e w' ⟨rfl, rfl⟩))
          refine (All_any none 0 0 [] _ Reads.none_ (by omega) (by simp)).mono ?_
          rintro e w1 ⟨rfl, hb1⟩
          go_wp2_with (first | (go_at_call 10; refine (Right_any _ _ ?_).mono ?_; (first | exact hsb | (simp [maxLen]; done) | (show 2 ≤ maxLen; decide)); rintro e w' ⟨rfl, rfl⟩) | (go_at_call 11; refine (wakes_any _).mono ?_; rintro e w' ⟨rfl, rfl⟩))
          refine (All_any _ 2 2 [⟨#[97]⟩, ⟨#[98]⟩] _ (reads_two _ (.string ⟨#[97]⟩) (.string ⟨#[98]⟩) _) (by omega) sz1).mono ?_
          rintro e w2 ⟨rfl, hb2⟩
          go_wp2_with (first | (go_at_call 10; refine (Right_any _ _ ?_).mono ?_; (first | exact hsb | (simp [maxLen]; done) | (show 2 ≤ maxLen; decide)); rintro e w' ⟨rfl, rfl⟩) | (go_at_call 11; refine (wakes_any _).mono ?_; rintro e w' ⟨rfl, rfl⟩))
          refine (All_any _ 2 2 [⟨#[97]⟩, ⟨#[97]⟩] _ (reads_two _ (.string ⟨#[97]⟩) (.string ⟨#[97]⟩) _) (by omega) sz2).mono ?_
          rintro e w3 ⟨rfl, hb3⟩
          go_wp2_with (first | (go_at_call 10; refine (Right_any _ _ ?_).mono ?_; (first | exact hsb | (simp [maxLen]; done) | (show 2 ≤ maxLen; decide)); rintro e w' ⟨rfl, rfl⟩) | (go_at_call 11; refine (wakes_any _).mono ?_; rintro e w' ⟨rfl, rfl⟩))
          refine (All_any _ 2 2 [⟨#[97]⟩, ⟨#[]⟩] _ (reads_two _ (.string ⟨#[97]⟩) (.string ⟨#[]⟩) _) (by omega) sz3).mono ?_
          rintro e w4 ⟨rfl, hb4⟩
          go_wp2_with (first | (go_at_call 10; refine (Right_any _ _ ?_).mono ?_; (first | exact hsb | (simp [maxLen]; done) | (show 2 ≤ maxLen; decide)); rintro e w' ⟨rfl, rfl⟩) | (go_at_call 11; refine (wakes_any _).mono ?_; rintro e w' ⟨rfl, rfl⟩))
          go_ret
          have n1 := below_next (Below.refl w.heap.size w) (Nat.le_refl _) _ hb1
          have n2 := below_next n1.1 n1.2 _ hb2
          have n3 := below_next n2.1 n2.2 _ hb3
          have n4 := below_next n3.1 n3.2 _ hb4
          exact ⟨by first | rfl | exact ret_bool (by simp; done) | exact ret_bool (by simp; omega), n4.1⟩
        · have hp : plB (u.toNat : Int) = true := plB_yes (by omega)
          go_wp2_with (first | (go_at_call 10; refine (Right_any _ _ ?_).mono ?_; (first | exact hsb | (simp [maxLen]; done) | (show 2 ≤ maxLen; decide)); rintro e w' ⟨rfl, rfl⟩) | (go_at_call 11; refine (wakes_any _).mono ?_; rintro e w' ⟨rfl, rfl⟩))
          refine (All_any none 0 0 [] _ Reads.none_ (by omega) (by simp)).mono ?_
          rintro e w1 ⟨rfl, hb1⟩
          go_wp2_with (first | (go_at_call 10; refine (Right_any _ _ ?_).mono ?_; (first | exact hsb | (simp [maxLen]; done) | (show 2 ≤ maxLen; decide)); rintro e w' ⟨rfl, rfl⟩) | (go_at_call 11; refine (wakes_any _).mono ?_; rintro e w' ⟨rfl, rfl⟩))
          refine (All_any _ 2 2 [⟨#[97]⟩, ⟨#[98]⟩] _ (reads_two _ (.string ⟨#[97]⟩) (.string ⟨#[98]⟩) _) (by omega) sz1).mono ?_
          rintro e w2 ⟨rfl, hb2⟩
          go_wp2_with (first | (go_at_call 10; refine (Right_any _ _ ?_).mono ?_; (first | exact hsb | (simp [maxLen]; done) | (show 2 ≤ maxLen; decide)); rintro e w' ⟨rfl, rfl⟩) | (go_at_call 11; refine (wakes_any _).mono ?_; rintro e w' ⟨rfl, rfl⟩))
          refine (All_any _ 2 2 [⟨#[97]⟩, ⟨#[97]⟩] _ (reads_two _ (.string ⟨#[97]⟩) (.string ⟨#[97]⟩) _) (by omega) sz2).mono ?_
          rintro e w3 ⟨rfl, hb3⟩
          go_wp2_with (first | (go_at_call 10; refine (Right_any _ _ ?_).mono ?_; (first | exact hsb | (simp [maxLen]; done) | (show 2 ≤ maxLen; decide)); rintro e w' ⟨rfl, rfl⟩) | (go_at_call 11; refine (wakes_any _).mono ?_; rintro e w' ⟨rfl, rfl⟩))
          refine (All_any _ 2 2 [⟨#[97]⟩, ⟨#[]⟩] _ (reads_two _ (.string ⟨#[97]⟩) (.string ⟨#[]⟩) _) (by omega) sz3).mono ?_
          rintro e w4 ⟨rfl, hb4⟩
          go_wp2_with (first | (go_at_call 10; refine (Right_any _ _ ?_).mono ?_; (first | exact hsb | (simp [maxLen]; done) | (show 2 ≤ maxLen; decide)); rintro e w' ⟨rfl, rfl⟩) | (go_at_call 11; refine (wakes_any _).mono ?_; rintro e w' ⟨rfl, rfl⟩))
          go_ret
          have n1 := below_next (Below.refl w.heap.size w) (Nat.le_refl _) _ hb1
          have n2 := below_next n1.1 n1.2 _ hb2
          have n3 := below_next n2.1 n2.2 _ hb3
          have n4 := below_next n3.1 n3.2 _ hb4
          exact ⟨by first | rfl | exact ret_bool (by simp; done) | exact ret_bool (by simp; omega), n4.1⟩
        · have hp : plB (u.toNat : Int) = false := plB_no (by omega)
          go_wp2_with (first | (go_at_call 10; refine (Right_any _ _ ?_).mono ?_; (first | exact hsb | (simp [maxLen]; done) | (show 2 ≤ maxLen; decide)); rintro e w' ⟨rfl, rfl⟩) | (go_at_call 11; refine (wakes_any _).mono ?_; rintro e w' ⟨rfl, rfl⟩))
          refine (All_any none 0 0 [] _ Reads.none_ (by omega) (by simp)).mono ?_
          rintro e w1 ⟨rfl, hb1⟩
          go_wp2_with (first | (go_at_call 10; refine (Right_any _ _ ?_).mono ?_; (first | exact hsb | (simp [maxLen]; done) | (show 2 ≤ maxLen; decide)); rintro e w' ⟨rfl, rfl⟩) | (go_at_call 11; refine (wakes_any _).mono ?_; rintro e w' ⟨rfl, rfl⟩))
          refine (All_any _ 2 2 [⟨#[97]⟩, ⟨#[98]⟩] _ (reads_two _ (.string ⟨#[97]⟩) (.string ⟨#[98]⟩) _) (by omega) sz1).mono ?_
          rintro e w2 ⟨rfl, hb2⟩
          go_wp2_with (first | (go_at_call 10; refine (Right_any _ _ ?_).mono ?_; (first | exact hsb | (simp [maxLen]; done) | (show 2 ≤ maxLen; decide)); rintro e w' ⟨rfl, rfl⟩) | (go_at_call 11; refine (wakes_any _).mono ?_; rintro e w' ⟨rfl, rfl⟩))
          refine (All_any _ 2 2 [⟨#[97]⟩, ⟨#[97]⟩] _ (reads_two _ (.string ⟨#[97]⟩) (.string ⟨#[97]⟩) _) (by omega) sz2).mono ?_
          rintro e w3 ⟨rfl, hb3⟩
          go_wp2_with (first | (go_at_call 10; refine (Right_any _ _ ?_).mono ?_; (first | exact hsb | (simp [maxLen]; done) | (show 2 ≤ maxLen; decide)); rintro e w' ⟨rfl, rfl⟩) | (go_at_call 11; refine (wakes_any _).mono ?_; rintro e w' ⟨rfl, rfl⟩))
          refine (All_any _ 2 2 [⟨#[97]⟩, ⟨#[]⟩] _ (reads_two _ (.string ⟨#[97]⟩) (.string ⟨#[]⟩) _) (by omega) sz3).mono ?_
          rintro e w4 ⟨rfl, hb4⟩
          go_wp2_with (first | (go_at_call 10; refine (Right_any _ _ ?_).mono ?_; (first | exact hsb | (simp [maxLen]; done) | (show 2 ≤ maxLen; decide)); rintro e w' ⟨rfl, rfl⟩) | (go_at_call 11; refine (wakes_any _).mono ?_; rintro e w' ⟨rfl, rfl⟩))
          go_ret
          have n1 := below_next (Below.refl w.heap.size w) (Nat.le_refl _) _ hb1
          have n2 := below_next n1.1 n1.2 _ hb2
          have n3 := below_next n2.1 n2.2 _ hb3
          have n4 := below_next n3.1 n3.2 _ hb4
          exact ⟨by first | rfl | exact ret_bool (by simp; done) | exact ret_bool (by simp; omega), n4.1⟩
        · have hp : plB (u.toNat : Int) = false := plB_no (by omega)
          have d57 : decide ((u.toNat : Int) ≤ 57) = false := by simp; omega
          go_wp2_with (first | (go_at_call 10; refine (Right_any _ _ ?_).mono ?_; (first | exact hsb | (simp [maxLen]; done) | (show 2 ≤ maxLen; decide)); rintro e w' ⟨rfl, rfl⟩) | (go_at_call 11; refine (wakes_any _).mono ?_; rintro e w' ⟨rfl, rfl⟩))
          refine (All_any none 0 0 [] _ Reads.none_ (by omega) (by simp)).mono ?_
          rintro e w1 ⟨rfl, hb1⟩
          go_wp2_with (first | (go_at_call 10; refine (Right_any _ _ ?_).mono ?_; (first | exact hsb | (simp [maxLen]; done) | (show 2 ≤ maxLen; decide)); rintro e w' ⟨rfl, rfl⟩) | (go_at_call 11; refine (wakes_any _).mono ?_; rintro e w' ⟨rfl, rfl⟩))
          refine (All_any _ 2 2 [⟨#[97]⟩, ⟨#[98]⟩] _ (reads_two _ (.string ⟨#[97]⟩) (.string ⟨#[98]⟩) _) (by omega) sz1).mono ?_
          rintro e w2 ⟨rfl, hb2⟩
          go_wp2_with (first | (go_at_call 10; refine (Right_any _ _ ?_).mono ?_; (first | exact hsb | (simp [maxLen]; done) | (show 2 ≤ maxLen; decide)); rintro e w' ⟨rfl, rfl⟩) | (go_at_call 11; refine (wakes_any _).mono ?_; rintro e w' ⟨rfl, rfl⟩))
          refine (All_any _ 2 2 [⟨#[97]⟩, ⟨#[97]⟩] _ (reads_two _ (.string ⟨#[97]⟩) (.string ⟨#[97]⟩) _) (by omega) sz2).mono ?_
          rintro e w3 ⟨rfl, hb3⟩
          go_wp2_with (first | (go_at_call 10; refine (Right_any _ _ ?_).mono ?_; (first | exact hsb | (simp [maxLen]; done) | (show 2 ≤ maxLen; decide)); rintro e w' ⟨rfl, rfl⟩) | (go_at_call 11; refine (wakes_any _).mono ?_; rintro e w' ⟨rfl, rfl⟩))
          refine (All_any _ 2 2 [⟨#[97]⟩, ⟨#[]⟩] _ (reads_two _ (.string ⟨#[97]⟩) (.string ⟨#[]⟩) _) (by omega) sz3).mono ?_
          rintro e w4 ⟨rfl, hb4⟩
          go_wp2_with (first | (go_at_call 10; refine (Right_any _ _ ?_).mono ?_; (first | exact hsb | (simp [maxLen]; done) | (show 2 ≤ maxLen; decide)); rintro e w' ⟨rfl, rfl⟩) | (go_at_call 11; refine (wakes_any _).mono ?_; rintro e w' ⟨rfl, rfl⟩))
          go_ret
          have n1 := below_next (Below.refl w.heap.size w) (Nat.le_refl _) _ hb1
          have n2 := below_next n1.1 n1.2 _ hb2
          have n3 := below_next n2.1 n2.2 _ hb3
          have n4 := below_next n3.1 n3.2 _ hb4
          exact ⟨by first | rfl | exact ret_bool (by simp; done) | exact ret_bool (by simp; omega), n4.1⟩
        · have hp : plB (u.toNat : Int) = false := plB_no (by omega)
          have d57 : decide ((u.toNat : Int) ≤ 57) = false := by simp; omega
          have d122 : decide ((u.toNat : Int) ≤ 122) = false := by simp; omega
          go_wp2_with (first | (go_at_call 10; refine (Right_any _ _ ?_).mono ?_; (first | exact hsb | (simp [maxLen]; done) | (show 2 ≤ maxLen; decide)); rintro e w' ⟨rfl, rfl⟩) | (go_at_call 11; refine (wakes_any _).mono ?_; rintro e w' ⟨rfl, rfl⟩))
          refine (All_any none 0 0 [] _ Reads.none_ (by omega) (by simp)).mono ?_
          rintro e w1 ⟨rfl, hb1⟩
          go_wp2_with (first | (go_at_call 10; refine (Right_any _ _ ?_).mono ?_; (first | exact hsb | (simp [maxLen]; done) | (show 2 ≤ maxLen; decide)); rintro e w' ⟨rfl, rfl⟩) | (go_at_call 11; refine (wakes_any _).mono ?_; rintro e w' ⟨rfl, rfl⟩))
          refine (All_any _ 2 2 [⟨#[97]⟩, ⟨#[98]⟩] _ (reads_two _ (.string ⟨#[97]⟩) (.string ⟨#[98]⟩) _) (by omega) sz1).mono ?_
          rintro e w2 ⟨rfl, hb2⟩
          go_wp2_with (first | (go_at_call 10; refine (Right_any _ _ ?_).mono ?_; (first | exact hsb | (simp [maxLen]; done) | (show 2 ≤ maxLen; decide)); rintro e w' ⟨rfl, rfl⟩) | (go_at_call 11; refine (wakes_any _).mono ?_; rintro e w' ⟨rfl, rfl⟩))
          refine (All_any _ 2 2 [⟨#[97]⟩, ⟨#[97]⟩] _ (reads_two _ (.string ⟨#[97]⟩) (.string ⟨#[97]⟩) _) (by omega) sz2).mono ?_
          rintro e w3 ⟨rfl, hb3⟩
          go_wp2_with (first | (go_at_call 10; refine (Right_any _ _ ?_).mono ?_; (first | exact hsb | (simp [maxLen]; done) | (show 2 ≤ maxLen; decide)); rintro e w' ⟨rfl, rfl⟩) | (go_at_call 11; refine (wakes_any _).mono ?_; rintro e w' ⟨rfl, rfl⟩))
          refine (All_any _ 2 2 [⟨#[97]⟩, ⟨#[]⟩] _ (reads_two _ (.string ⟨#[97]⟩) (.string ⟨#[]⟩) _) (by omega) sz3).mono ?_
          rintro e w4 ⟨rfl, hb4⟩
          go_wp2_with (first | (go_at_call 10; refine (Right_any _ _ ?_).mono ?_; (first | exact hsb | (simp [maxLen]; done) | (show 2 ≤ maxLen; decide)); rintro e w' ⟨rfl, rfl⟩) | (go_at_call 11; refine (wakes_any _).mono ?_; rintro e w' ⟨rfl, rfl⟩))
          go_ret
          have n1 := below_next (Below.refl w.heap.size w) (Nat.le_refl _) _ hb1
          have n2 := below_next n1.1 n1.2 _ hb2
          have n3 := below_next n2.1 n2.2 _ hb3
          have n4 := below_next n3.1 n3.2 _ hb4
          exact ⟨by first | rfl | exact ret_bool (by simp; done) | exact ret_bool (by simp; omega), n4.1⟩
      · have hr : rightB sb.data.toList = true := by rw [Hr.out]; simp; omega
        rcases hz with ⟨hz1, hz2⟩ | ⟨hz1, hz2⟩ | hz1 | ⟨hz1, hz2⟩ | hz1
        · have hp : plB (u.toNat : Int) = true := plB_yes (by omega)
          go_wp2_with (first | (go_at_call 10; refine (Right_any _ _ ?_).mono ?_; (first | exact hsb | (simp [maxLen]; done) | (show 2 ≤ maxLen; decide)); rintro e w' ⟨rfl, rfl⟩) | (go_at_call 11; refine (wakes_any _).mono ?_; rintro e w' ⟨rfl, rfl⟩))
          refine (All_any none 0 0 [] _ Reads.none_ (by omega) (by simp)).mono ?_
          rintro e w1 ⟨rfl, hb1⟩
          go_wp2_with (first | (go_at_call 10; refine (Right_any _ _ ?_).mono ?_; (first | exact hsb | (simp [maxLen]; done) | (show 2 ≤ maxLen; decide)); rintro e w' ⟨rfl, rfl⟩) | (go_at_call 11; refine (wakes_any _).mono ?_; rintro e w' ⟨rfl, rfl⟩))
          refine (All_any _ 2 2 [⟨#[97]⟩, ⟨#[98]⟩] _ (reads_two _ (.string ⟨#[97]⟩) (.string ⟨#[98]⟩) _) (by omega) sz1).mono ?_
          rintro e w2 ⟨rfl, hb2⟩
          go_wp2_with (first | (go_at_call 10; refine (Right_any _ _ ?_).mono ?_; (first | exact hsb | (simp [maxLen]; done) | (show 2 ≤ maxLen; decide)); rintro e w' ⟨rfl, rfl⟩) | (go_at_call 11; refine (wakes_any _).mono ?_; rintro e w' ⟨rfl, rfl⟩))
          refine (All_any _ 2 2 [⟨#[97]⟩, ⟨#[97]⟩] _ (reads_two _ (.string ⟨#[97]⟩) (.string ⟨#[97]⟩) _) (by omega) sz2).mono ?_
          rintro e w3 ⟨rfl, hb3⟩
          go_wp2_with (first | (go_at_call 10; refine (Right_any _ _ ?_).mono ?_; (first | exact hsb | (simp [maxLen]; done) | (show 2 ≤ maxLen; decide)); rintro e w' ⟨rfl, rfl⟩) | (go_at_call 11; refine (wakes_any _).mono ?_; rintro e w' ⟨rfl, rfl⟩))
          refine (All_any _ 2 2 [⟨#[97]⟩, ⟨#[]⟩] _ (reads_two _ (.string ⟨#[97]⟩) (.string ⟨#[]⟩) _) (by omega) sz3).mono ?_
          rintro e w4 ⟨rfl, hb4⟩
          go_wp2_with (first | (go_at_call 10; refine (Right_any _ _ ?_).mono ?_; (first | exact hsb | (simp [maxLen]; done) | (show 2 ≤ maxLen; decide)); rintro e w' ⟨rfl, rfl⟩) | (go_at_call 11; refine (wakes_any _).mono ?_; rintro e w' ⟨rfl, rfl⟩))
          go_ret
          have n1 := below_next (Below.refl w.heap.size w) (Nat.le_refl _) _ hb1
          have n2 := below_next n1.1 n1.2 _ hb2
          have n3 := below_next n2.1 n2.2 _ hb3
          have n4 := below_next n3.1 n3.2 _ hb4
          exact ⟨by first | rfl | exact ret_bool (by simp; done) | exact ret_bool (by simp; omega), n4.1⟩
        · have hp : plB (u.toNat : Int) = true := plB_yes (by omega)
          go_wp2_with (first | (go_at_call 10; refine (Right_any _ _ ?_).mono ?_; (first | exact hsb | (simp [maxLen]; done) | (show 2 ≤ maxLen; decide)); rintro e w' ⟨rfl, rfl⟩) | (go_at_call 11; refine (wakes_any _).mono ?_; rintro e w' ⟨rfl, rfl⟩))
          refine (All_any none 0 0 [] _ Reads.none_ (by omega) (by simp)).mono ?_
          rintro e w1 ⟨rfl, hb1⟩
          go_wp2_with (first | (go_at_call 10; refine (Right_any _ _ ?_).mono ?_; (first | exact hsb | (simp [maxLen]; done) | (show 2 ≤ maxLen; decide)); rintro e w' ⟨rfl, rfl⟩) | (go_at_call 11; refine (wakes_any _).mono ?_; rintro e w' ⟨rfl, rfl⟩))
          refine (All_any _ 2 2 [⟨#[97]⟩, ⟨#[98]⟩] _ (reads_two _ (.string ⟨#[97]⟩) (.string ⟨#[98]⟩) _) (by omega) sz1).mono ?_
          rintro e w2 ⟨rfl, hb2⟩
          go_wp2_with (first | (go_at_call 10; refine (Right_any _ _ ?_).mono ?_; (first | exact hsb | (simp [maxLen]; done) | (show 2 ≤ maxLen; decide)); rintro e w' ⟨rfl, rfl⟩) | (go_at_call 11; refine (wakes_any _).mono ?_; rintro e w' ⟨rfl, rfl⟩))
          refine (All_any _ 2 2 [⟨#[97]⟩, ⟨#[97]⟩] _ (reads_two _ (.string ⟨#[97]⟩) (.string ⟨#[97]⟩) _) (by omega) sz2).mono ?_
          rintro e w3 ⟨rfl, hb3⟩
          go_wp2_with (first | (go_at_call 10; refine (Right_any _ _ ?_).mono ?_; (first | exact hsb | (simp [maxLen]; done) | (show 2 ≤ maxLen; decide)); rintro e w' ⟨rfl, rfl⟩) | (go_at_call 11; refine (wakes_any _).mono ?_; rintro e w' ⟨rfl, rfl⟩))
          refine (All_any _ 2 2 [⟨#[97]⟩, ⟨#[]⟩] _ (reads_two _ (.string ⟨#[97]⟩) (.string ⟨#[]⟩) _) (by omega) sz3).mono ?_
          rintro e w4 ⟨rfl, hb4⟩
          go_wp2_with (first | (go_at_call 10; refine (Right_any _ _ ?_).mono ?_; (first | exact hsb | (simp [maxLen]; done) | (show 2 ≤ maxLen; decide)); rintro e w' ⟨rfl, rfl⟩) | (go_at_call 11; refine (wakes_any _).mono ?_; rintro e w' ⟨rfl, rfl⟩))
          go_ret
          have n1 := below_next (Below.refl w.heap.size w) (Nat.le_refl _) _ hb1
          have n2 := below_next n1.1 n1.2 _ hb2
          have n3 := below_next n2.1 n2.2 _ hb3
          have n4 := below_next n3.1 n3.2 _ hb4
          exact ⟨by first | rfl | exact ret_bool (by simp; done) | exact ret_bool (by simp; omega), n4.1⟩
        · have hp : plB (u.toNat : Int) = false := plB_no (by omega)
          go_wp2_with (first | (go_at_call 10; refine (Right_any _ _ ?_).mono ?_; (first | exact hsb | (simp [maxLen]; done) | (show 2 ≤ maxLen; decide)); rintro e w' ⟨rfl, rfl⟩) | (go_at_call 11; refine (wakes_any _).mono ?_; rintro e w' ⟨rfl, rfl⟩))
          refine (All_any none 0 0 [] _ Reads.none_ (by omega) (by simp)).mono ?_
          rintro e w1 ⟨rfl, hb1⟩
          go_wp2_with (first | (go_at_call 10; refine (Right_any _ _ ?_).mono ?_; (first | exact hsb | (simp [maxLen]; done) | (show 2 ≤ maxLen; decide)); rintro e w' ⟨rfl, rfl⟩) | (go_at_call 11; refine (wakes_any _).mono ?_; rintro e w' ⟨rfl, rfl⟩))
          refine (All_any _ 2 2 [⟨#[97]⟩, ⟨#[98]⟩] _ (reads_two _ (.string ⟨#[97]⟩) (.string ⟨#[98]⟩) _) (by omega) sz1).mono ?_
          rintro e w2 ⟨rfl, hb2⟩
          go_wp2_with (first | (go_at_call 10; refine (Right_any _ _ ?_).mono ?_; (first | exact hsb | (simp [maxLen]; done) | (show 2 ≤ maxLen; decide)); rintro e w' ⟨rfl, rfl⟩) | (go_at_call 11; refine (wakes_any _).mono ?_; rintro e w' ⟨rfl, rfl⟩))
          refine (All_any _ 2 2 [⟨#[97]⟩, ⟨#[97]⟩] _ (reads_two _ (.string ⟨#[97]⟩) (.string ⟨#[97]⟩) _) (by omega) sz2).mono ?_
          rintro e w3 ⟨rfl, hb3⟩
          go_wp2_with (first | (go_at_call 10; refine (Right_any _ _ ?_).mono ?_; (first | exact hsb | (simp [maxLen]; done) | (show 2 ≤ maxLen; decide)); rintro e w' ⟨rfl, rfl⟩) | (go_at_call 11; refine (wakes_any _).mono ?_; rintro e w' ⟨rfl, rfl⟩))
          refine (All_any _ 2 2 [⟨#[97]⟩, ⟨#[]⟩] _ (reads_two _ (.string ⟨#[97]⟩) (.string ⟨#[]⟩) _) (by omega) sz3).mono ?_
          rintro e w4 ⟨rfl, hb4⟩
          go_wp2_with (first | (go_at_call 10; refine (Right_any _ _ ?_).mono ?_; (first | exact hsb | (simp [maxLen]; done) | (show 2 ≤ maxLen; decide)); rintro e w' ⟨rfl, rfl⟩) | (go_at_call 11; refine (wakes_any _).mono ?_; rintro e w' ⟨rfl, rfl⟩))
          go_ret
          have n1 := below_next (Below.refl w.heap.size w) (Nat.le_refl _) _ hb1
          have n2 := below_next n1.1 n1.2 _ hb2
          have n3 := below_next n2.1 n2.2 _ hb3
          have n4 := below_next n3.1 n3.2 _ hb4
          exact ⟨by first | rfl | exact ret_bool (by simp; done) | exact ret_bool (by simp; omega), n4.1⟩
        · have hp : plB (u.toNat : Int) = false := plB_no (by omega)
          have d57 : decide ((u.toNat : Int) ≤ 57) = false := by simp; omega
          go_wp2_with (first | (go_at_call 10; refine (Right_any _ _ ?_).mono ?_; (first | exact hsb | (simp [maxLen]; done) | (show 2 ≤ maxLen; decide)); rintro e w' ⟨rfl, rfl⟩) | (go_at_call 11; refine (wakes_any _).mono ?_; rintro e w' ⟨rfl, rfl⟩))
          refine (All_any none 0 0 [] _ Reads.none_ (by omega) (by simp)).mono ?_
          rintro e w1 ⟨rfl, hb1⟩
          go_wp2_with (first | (go_at_call 10; refine (Right_any _ _ ?_).mono ?_; (first | exact hsb | (simp [maxLen]; done) | (show 2 ≤ maxLen; decide)); rintro e w' ⟨rfl, rfl⟩) | (go_at_call 11; refine (wakes_any _).mono ?_; rintro e w' ⟨rfl, rfl⟩))
          refine (All_any _ 2 2 [⟨#[97]⟩, ⟨#[98]⟩] _ (reads_two _ (.string ⟨#[97]⟩) (.string ⟨#[98]⟩) _) (by omega) sz1).mono ?_
          rintro e w2 ⟨rfl, hb2⟩
          go_wp2_with (first | (go_at_call 10; refine (Right_any _ _ ?_).mono ?_; (first | exact hsb | (simp [maxLen]; done) | (show 2 ≤ maxLen; decide)); rintro e w' ⟨rfl, rfl⟩) | (go_at_call 11; refine (wakes_any _).mono ?_; rintro e w' ⟨rfl, rfl⟩))
          refine (All_any _ 2 2 [⟨#[97]⟩, ⟨#[97]⟩] _ (reads_two _ (.string ⟨#[97]⟩) (.string ⟨#[97]⟩) _) (by omega) sz2).mono ?_
          rintro e w3 ⟨rfl, hb3⟩
          go_wp2_with (first | (go_at_call 10; refine (Right_any _ _ ?_).mono ?_; (first | exact hsb | (simp [maxLen]; done) | (show 2 ≤ maxLen; decide)); rintro e w' ⟨rfl, rfl⟩) | (go_at_call 11; refine (wakes_any _).mono ?_; rintro e w' ⟨rfl, rfl⟩))
          refine (All_any _ 2 2 [⟨#[97]⟩, ⟨#[]⟩] _ (reads_two _ (.string ⟨#[97]⟩) (.string ⟨#[]⟩) _) (by omega) sz3).mono ?_
          rintro e w4 ⟨rfl, hb4⟩
          go_wp2_with (first | (go_at_call 10; refine (Right_any _ _ ?_).mono ?_; (first | exact hsb | (simp [maxLen]; done) | (show 2 ≤ maxLen; decide)); rintro e w' ⟨rfl, rfl⟩) | (go_at_call 11; refine (wakes_any _).mono ?_; rintro e w' ⟨rfl, rfl⟩))
          go_ret
          have n1 := below_next (Below.refl w.heap.size w) (Nat.le_refl _) _ hb1
          have n2 := below_next n1.1 n1.2 _ hb2
          have n3 := below_next n2.1 n2.2 _ hb3
          have n4 := below_next n3.1 n3.2 _ hb4
          exact ⟨by first | rfl | exact ret_bool (by simp; done) | exact ret_bool (by simp; omega), n4.1⟩
        · have hp : plB (u.toNat : Int) = false := plB_no (by omega)
          have d57 : decide ((u.toNat : Int) ≤ 57) = false := by simp; omega
          have d122 : decide ((u.toNat : Int) ≤ 122) = false := by simp; omega
          go_wp2_with (first | (go_at_call 10; refine (Right_any _ _ ?_).mono ?_; (first | exact hsb | (simp [maxLen]; done) | (show 2 ≤ maxLen; decide)); rintro e w' ⟨rfl, rfl⟩) | (go_at_call 11; refine (wakes_any _).mono ?_; rintro e w' ⟨rfl, rfl⟩))
          refine (All_any none 0 0 [] _ Reads.none_ (by omega) (by simp)).mono ?_
          rintro e w1 ⟨rfl, hb1⟩
          go_wp2_with (first | (go_at_call 10; refine (Right_any _ _ ?_).mono ?_; (first | exact hsb | (simp [maxLen]; done) | (show 2 ≤ maxLen; decide)); rintro e w' ⟨rfl, rfl⟩) | (go_at_call 11; refine (wakes_any _).mono ?_; rintro e w' ⟨rfl, rfl⟩))
          refine (All_any _ 2 2 [⟨#[97]⟩, ⟨#[98]⟩] _ (reads_two _ (.string ⟨#[97]⟩) (.string ⟨#[98]⟩) _) (by omega) sz1).mono ?_
          rintro e w2 ⟨rfl, hb2⟩
          go_wp2_with (first | (go_at_call 10; refine (Right_any _ _ ?_).mono ?_; (first | exact hsb | (simp [maxLen]; done) | (show 2 ≤ maxLen; decide)); rintro e w' ⟨rfl, rfl⟩) | (go_at_call 11; refine (wakes_any _).mono ?_; rintro e w' ⟨rfl, rfl⟩))
          refine (All_any _ 2 2 [⟨#[97]⟩, ⟨#[97]⟩] _ (reads_two _ (.string ⟨#[97]⟩) (.string ⟨#[97]⟩) _) (by omega) sz2).mono ?_
          rintro e w3 ⟨rfl, hb3⟩
          go_wp2_with (first | (go_at_call 10; refine (Right_any _ _ ?_).mono ?_; (first | exact hsb | (simp [maxLen]; done) | (show 2 ≤ maxLen; decide)); rintro e w' ⟨rfl, rfl⟩) | (go_at_call 11; refine (wakes_any _).mono ?_; rintro e w' ⟨rfl, rfl⟩))
          refine (All_any _ 2 2 [⟨#[97]⟩, ⟨#[]⟩] _ (reads_two _ (.string ⟨#[97]⟩) (.string ⟨#[]⟩) _) (by omega) sz3).mono ?_
          rintro e w4 ⟨rfl, hb4⟩
          go_wp2_with (first | (go_at_call 10; refine (Right_any _ _ ?_).mono ?_; (first | exact hsb | (simp [maxLen]; done) | (show 2 ≤ maxLen; decide)); rintro e w' ⟨rfl, rfl⟩) | (go_at_call 11; refine (wakes_any _).mono ?_; rintro e w' ⟨rfl, rfl⟩))
          go_ret
          have n1 := below_next (Below.refl w.heap.size w) (Nat.le_refl _) _ hb1
          have n2 := below_next n1.1 n1.2 _ hb2
          have n3 := below_next n2.1 n2.2 _ hb3
          have n4 := below_next n3.1 n3.2 _ hb4
          exact ⟨by first | rfl | exact ret_bool (by simp; done) | exact ret_bool (by simp; omega), n4.1⟩
      · have hr : rightB sb.data.toList = false := by rw [Hr.out]; simp; omega
        rcases hz with ⟨hz1, hz2⟩ | ⟨hz1, hz2⟩ | hz1 | ⟨hz1, hz2⟩ | hz1
        · have hp : plB (u.toNat : Int) = true := plB_yes (by omega)
          have dk8 : decide ((k : Int) ≤ 8) = false := by simp; omega
          go_wp2_with (first | (go_at_call 10; refine (Right_any _ _ ?_).mono ?_; (first | exact hsb | (simp [maxLen]; done) | (show 2 ≤ maxLen; decide)); rintro e w' ⟨rfl, rfl⟩) | (go_at_call 11; refine (wakes_any _).mono ?_; rintro e w' ⟨rfl, rfl⟩))
          refine (All_any none 0 0 [] _ Reads.none_ (by omega) (by simp)).mono ?_
          rintro e w1 ⟨rfl, hb1⟩
          go_wp2_with (first | (go_at_call 10; refine (Right_any _ _ ?_).mono ?_; (first | exact hsb | (simp [maxLen]; done) | (show 2 ≤ maxLen; decide)); rintro e w' ⟨rfl, rfl⟩) | (go_at_call 11; refine (wakes_any _).mono ?_; rintro e w' ⟨rfl, rfl⟩))
          refine (All_any _ 2 2 [⟨#[97]⟩, ⟨#[98]⟩] _ (reads_two _ (.string ⟨#[97]⟩) (.string ⟨#[98]⟩) _) (by omega) sz1).mono ?_
          rintro e w2 ⟨rfl, hb2⟩
          go_wp2_with (first | (go_at_call 10; refine (Right_any _ _ ?_).mono ?_; (first | exact hsb | (simp [maxLen]; done) | (show 2 ≤ maxLen; decide)); rintro e w' ⟨rfl, rfl⟩) | (go_at_call 11; refine (wakes_any _).mono ?_; rintro e w' ⟨rfl, rfl⟩))
          refine (All_any _ 2 2 [⟨#[97]⟩, ⟨#[97]⟩] _ (reads_two _ (.string ⟨#[97]⟩) (.string ⟨#[97]⟩) _) (by omega) sz2).mono ?_
          rintro e w3 ⟨rfl, hb3⟩
          go_wp2_with (first | (go_at_call 10; refine (Right_any _ _ ?_).mono ?_; (first | exact hsb | (simp [maxLen]; done) | (show 2 ≤ maxLen; decide)); rintro e w' ⟨rfl, rfl⟩) | (go_at_call 11; refine (wakes_any _).mono ?_; rintro e w' ⟨rfl, rfl⟩))
          refine (All_any _ 2 2 [⟨#[97]⟩, ⟨#[]⟩] _ (reads_two _ (.string ⟨#[97]⟩) (.string ⟨#[]⟩) _) (by omega) sz3).mono ?_
          rintro e w4 ⟨rfl, hb4⟩
          go_wp2_with (first | (go_at_call 10; refine (Right_any _ _ ?_).mono ?_; (first | exact hsb | (simp [maxLen]; done) | (show 2 ≤ maxLen; decide)); rintro e w' ⟨rfl, rfl⟩) | (go_at_call 11; refine (wakes_any _).mono ?_; rintro e w' ⟨rfl, rfl⟩))
          go_ret
          have n1 := below_next (Below.refl w.heap.size w) (Nat.le_refl _) _ hb1
          have n2 := below_next n1.1 n1.2 _ hb2
          have n3 := below_next n2.1 n2.2 _ hb3
          have n4 := below_next n3.1 n3.2 _ hb4
          exact ⟨by first | rfl | exact ret_bool (by simp; done) | exact ret_bool (by simp; omega), n4.1⟩
        · have hp : plB (u.toNat : Int) = true := plB_yes (by omega)
          have dk8 : decide ((k : Int) ≤ 8) = false := by simp; omega
          go_wp2_with (first | (go_at_call 10; refine (Right_any _ _ ?_).mono ?_; (first | exact hsb | (simp [maxLen]; done) | (show 2 ≤ maxLen; decide)); rintro e w' ⟨rfl, rfl⟩) | (go_at_call 11; refine (wakes_any _).mono ?_; rintro e w' ⟨rfl, rfl⟩))
          refine (All_any none 0 0 [] _ Reads.none_ (by omega) (by simp)).mono ?_
          rintro e w1 ⟨rfl, hb1⟩
          go_wp2_with (first | (go_at_call 10; refine (Right_any _ _ ?_).mono ?_; (first | exact hsb | (simp [maxLen]; done) | (show 2 ≤ maxLen; decide)); rintro e w' ⟨rfl, rfl⟩) | (go_at_call 11; refine (wakes_any _).mono ?_; rintro e w' ⟨rfl, rfl⟩))
          refine (All_any _ 2 2 [⟨#[97]⟩, ⟨#[98]⟩] _ (reads_two _ (.string ⟨#[97]⟩) (.string ⟨#[98]⟩) _) (by omega) sz1).mono ?_
          rintro e w2 ⟨rfl, hb2⟩
          go_wp2_with (first | (go_at_call 10; refine (Right_any _ _ ?_).mono ?_; (first | exact hsb | (simp [maxLen]; done) | (show 2 ≤ maxLen; decide)); rintro e w' ⟨rfl, rfl⟩) | (go_at_call 11; refine (wakes_any _).mono ?_; rintro e w' ⟨rfl, rfl⟩))
          refine (All_any _ 2 2 [⟨#[97]⟩, ⟨#[97]⟩] _ (reads_two _ (.string ⟨#[97]⟩) (.string ⟨#[97]⟩) _) (by omega) sz2).mono ?_
          rintro e w3 ⟨rfl, hb3⟩
          go_wp2_with (first | (go_at_call 10; refine (Right_any _ _ ?_).mono ?_; (first | exact hsb | (simp [maxLen]; done) | (show 2 ≤ maxLen; decide)); rintro e w' ⟨rfl, rfl⟩) | (go_at_call 11; refine (wakes_any _).mono ?_; rintro e w' ⟨rfl, rfl⟩))
          refine (All_any _ 2 2 [⟨#[97]⟩, ⟨#[]⟩] _ (reads_two _ (.string ⟨#[97]⟩) (.string ⟨#[]⟩) _) (by omega) sz3).mono ?_
          rintro e w4 ⟨rfl, hb4⟩
          go_wp2_with (first | (go_at_call 10; refine (Right_any _ _ ?_).mono ?_; (first | exact hsb | (simp [maxLen]; done) | (show 2 ≤ maxLen; decide)); rintro e w' ⟨rfl, rfl⟩) | (go_at_call 11; refine (wakes_any _).mono ?_; rintro e w' ⟨rfl, rfl⟩))
          go_ret
          have n1 := below_next (Below.refl w.heap.size w) (Nat.le_refl _) _ hb1
          have n2 := below_next n1.1 n1.2 _ hb2
          have n3 := below_next n2.1 n2.2 _ hb3
          have n4 := below_next n3.1 n3.2 _ hb4
          exact ⟨by first | rfl | exact ret_bool (by simp; done) | exact ret_bool (by simp; omega), n4.1⟩
        · have hp : plB (u.toNat : Int) = false := plB_no (by omega)
          have dk8 : decide ((k : Int) ≤ 8) = false := by simp; omega
          go_wp2_with (first | (go_at_call 10; refine (Right_any _ _ ?_).mono ?_; (first | exact hsb | (simp [maxLen]; done) | (show 2 ≤ maxLen; decide)); rintro e w' ⟨rfl, rfl⟩) | (go_at_call 11; refine (wakes_any _).mono ?_; rintro e w' ⟨rfl, rfl⟩))
          refine (All_any none 0 0 [] _ Reads.none_ (by omega) (by simp)).mono ?_
          rintro e w1 ⟨rfl, hb1⟩
          go_wp2_with (first | (go_at_call 10; refine (Right_any _ _ ?_).mono ?_; (first | exact hsb | (simp [maxLen]; done) | (show 2 ≤ maxLen; decide)); rintro e w' ⟨rfl, rfl⟩) | (go_at_call 11; refine (wakes_any _).mono ?_; rintro e w' ⟨rfl, rfl⟩))
          refine (All_any _ 2 2 [⟨#[97]⟩, ⟨#[98]⟩] _ (reads_two _ (.string ⟨#[97]⟩) (.string ⟨#[98]⟩) _) (by omega) sz1).mono ?_
          rintro e w2 ⟨rfl, hb2⟩
          go_wp2_with (first | (go_at_call 10; refine (Right_any _ _ ?_).mono ?_; (first | exact hsb | (simp [maxLen]; done) | (show 2 ≤ maxLen; decide)); rintro e w' ⟨rfl, rfl⟩) | (go_at_call 11; refine (wakes_any _).mono ?_; rintro e w' ⟨rfl, rfl⟩))
          refine (All_any _ 2 2 [⟨#[97]⟩, ⟨#[97]⟩] _ (reads_two _ (.string ⟨#[97]⟩) (.string ⟨#[97]⟩) _) (by omega) sz2).mono ?_
          rintro e w3 ⟨rfl, hb3⟩
          go_wp2_with (first | (go_at_call 10; refine (Right_any _ _ ?_).mono ?_; (first | exact hsb | (simp [maxLen]; done) | (show 2 ≤ maxLen; decide)); rintro e w' ⟨rfl, rfl⟩) | (go_at_call 11; refine (wakes_any _).mono ?_; rintro e w' ⟨rfl, rfl⟩))
          refine (All_any _ 2 2 [⟨#[97]⟩, ⟨#[]⟩] _ (reads_two _ (.string ⟨#[97]⟩) (.string ⟨#[]⟩) _) (by omega) sz3).mono ?_
          rintro e w4 ⟨rfl, hb4⟩
          go_wp2_with (first | (go_at_call 10; refine (Right_any _ _ ?_).mono ?_; (first | exact hsb | (simp [maxLen]; done) | (show 2 ≤ maxLen; decide)); rintro e w' ⟨rfl, rfl⟩) | (go_at_call 11; refine (wakes_any _).mono ?_; rintro e w' ⟨rfl, rfl⟩))
          go_ret
          have n1 := below_next (Below.refl w.heap.size w) (Nat.le_refl _) _ hb1
          have n2 := below_next n1.1 n1.2 _ hb2
          have n3 := below_next n2.1 n2.2 _ hb3
          have n4 := below_next n3.1 n3.2 _ hb4
          exact ⟨by first | rfl | exact ret_bool (by simp; done) | exact ret_bool (by simp; omega), n4.1⟩
        · have hp : plB (u.toNat : Int) = false := plB_no (by omega)
          have dk8 : decide ((k : Int) ≤ 8) = false := by simp; omega
          have d57 : decide ((u.toNat : Int) ≤ 57) = false := by simp; omega
          go_wp2_with (first | (go_at_call 10; refine (Right_any _ _ ?_).mono ?_; (first | exact hsb | (simp [maxLen]; done) | (show 2 ≤ maxLen; decide)); rintro e w' ⟨rfl, rfl⟩) | (go_at_call 11; refine (wakes_any _).mono ?_; rintro e w' ⟨rfl, rfl⟩))
          refine (All_any none 0 0 [] _ Reads.none_ (by omega) (by simp)).mono ?_
          rintro e w1 ⟨rfl, hb1⟩
          go_wp2_with (first | (go_at_call 10; refine (Right_any _ _ ?_).mono ?_; (first | exact hsb | (simp [maxLen]; done) | (show 2 ≤ maxLen; decide)); rintro e w' ⟨rfl, rfl⟩) | (go_at_call 11; refine (wakes_any _).mono ?_; rintro e w' ⟨rfl, rfl⟩))
          refine (All_any _ 2 2 [⟨#[97]⟩, ⟨#[98]⟩] _ (reads_two _ (.string ⟨#[97]⟩) (.string ⟨#[98]⟩) _) (by omega) sz1).mono ?_
          rintro e w2 ⟨rfl, hb2⟩
          go_wp2_with (first | (go_at_call 10; refine (Right_any _ _ ?_).mono ?_; (first | exact hsb | (simp [maxLen]; done) | (show 2 ≤ maxLen; decide)); rintro e w' ⟨rfl, rfl⟩) | (go_at_call 11; refine (wakes_any _).mono ?_; rintro e w' ⟨rfl, rfl⟩))
          refine (All_any _ 2 2 [⟨#[97]⟩, ⟨#[97]⟩] _ (reads_two _ (.string ⟨#[97]⟩) (.string ⟨#[97]⟩) _) (by omega) sz2).mono ?_
          rintro e w3 ⟨rfl, hb3⟩
          go_wp2_with (first | (go_at_call 10; refine (Right_any _ _ ?_).mono ?_; (first | exact hsb | (simp [maxLen]; done) | (show 2 ≤ maxLen; decide)); rintro e w' ⟨rfl, rfl⟩) | (go_at_call 11; refine (wakes_any _).mono ?_; rintro e w' ⟨rfl, rfl⟩))
          refine (All_any _ 2 2 [⟨#[97]⟩, ⟨#[]⟩] _ (reads_two _ (.string ⟨#[97]⟩) (.string ⟨#[]⟩) _) (by omega) sz3).mono ?_
          rintro e w4 ⟨rfl, hb4⟩
          go_wp2_with (first | (go_at_call 10; refine (Right_any _ _ ?_).mono ?_; (first | exact hsb | (simp [maxLen]; done) | (show 2 ≤ maxLen; decide)); rintro e w' ⟨rfl, rfl⟩) | (go_at_call 11; refine (wakes_any _).mono ?_; rintro e w' ⟨rfl, rfl⟩))
          go_ret
          have n1 := below_next (Below.refl w.heap.size w) (Nat.le_refl _) _ hb1
          have n2 := below_next n1.1 n1.2 _ hb2
          have n3 := below_next n2.1 n2.2 _ hb3
          have n4 := below_next n3.1 n3.2 _ hb4
          exact ⟨by first | rfl | exact ret_bool (by simp; done) | exact ret_bool (by simp; omega), n4.1⟩
        · have hp : plB (u.toNat : Int) = false := plB_no (by omega)
          have dk8 : decide ((k : Int) ≤ 8) = false := by simp; omega
          have d57 : decide ((u.toNat : Int) ≤ 57) = false := by simp; omega
          have d122 : decide ((u.toNat : Int) ≤ 122) = false := by simp; omega
          go_wp2_with (first | (go_at_call 10; refine (Right_any _ _ ?_).mono ?_; (first | exact hsb | (simp [maxLen]; done) | (show 2 ≤ maxLen; decide)); rintro e w' ⟨rfl, rfl⟩) | (go_at_call 11; refine (wakes_any _).mono ?_; rintro e w' ⟨rfl, rfl⟩))
          refine (All_any none 0 0 [] _ Reads.none_ (by omega) (by simp)).mono ?_
          rintro e w1 ⟨rfl, hb1⟩
          go_wp2_with (first | (go_at_call 10; refine (Right_any _ _ ?_).mono ?_; (first | exact hsb | (simp [maxLen]; done) | (show 2 ≤ maxLen; decide)); rintro e w' ⟨rfl, rfl⟩) | (go_at_call 11; refine (wakes_any _).mono ?_; rintro e w' ⟨rfl, rfl⟩))
          refine (All_any _ 2 2 [⟨#[97]⟩, ⟨#[98]⟩] _ (reads_two _ (.string ⟨#[97]⟩) (.string ⟨#[98]⟩) _) (by omega) sz1).mono ?_
          rintro e w2 ⟨rfl, hb2⟩
          go_wp2_with (first | (go_at_call 10; refine (Right_any _ _ ?_).mono ?_; (first | exact hsb | (simp [maxLen]; done) | (show 2 ≤ maxLen; decide)); rintro e w' ⟨rfl, rfl⟩) | (go_at_call 11; refine (wakes_any _).mono ?_; rintro e w' ⟨rfl, rfl⟩))
          refine (All_any _ 2 2 [⟨#[97]⟩, ⟨#[97]⟩] _ (reads_two _ (.string ⟨#[97]⟩) (.string ⟨#[97]⟩) _) (by omega) sz2).mono ?_
          rintro e w3 ⟨rfl, hb3⟩
          go_wp2_with (first | (go_at_call 10; refine (Right_any _ _ ?_).mono ?_; (first | exact hsb | (simp [maxLen]; done) | (show 2 ≤ maxLen; decide)); rintro e w' ⟨rfl, rfl⟩) | (go_at_call 11; refine (wakes_any _).mono ?_; rintro e w' ⟨rfl, rfl⟩))
          refine (All_any _ 2 2 [⟨#[97]⟩, ⟨#[]⟩] _ (reads_two _ (.string ⟨#[97]⟩) (.string ⟨#[]⟩) _) (by omega) sz3).mono ?_
          rintro e w4 ⟨rfl, hb4⟩
          go_wp2_with (first | (go_at_call 10; refine (Right_any _ _ ?_).mono ?_; (first | exact hsb | (simp [maxLen]; done) | (show 2 ≤ maxLen; decide)); rintro e w' ⟨rfl, rfl⟩) | (go_at_call 11; refine (wakes_any _).mono ?_; rintro e w' ⟨rfl, rfl⟩))
          go_ret
          have n1 := below_next (Below.refl w.heap.size w) (Nat.le_refl _) _ hb1
          have n2 := below_next n1.1 n1.2 _ hb2
          have n3 := below_next n2.1 n2.2 _ hb3
          have n4 := below_next n3.1 n3.2 _ hb4
          exact ⟨by first | rfl | exact ret_bool (by simp; done) | exact ret_bool (by simp; omega), n4.1⟩

end Go.Proofs.Ytkiomhnjfakjbaa.nameForms
