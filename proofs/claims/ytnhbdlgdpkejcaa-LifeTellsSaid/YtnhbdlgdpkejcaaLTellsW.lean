/- The walk of LifeTells: the Go text returns true, and writes nothing that was there. -/
import Derived.Test.YtnhbdlgdpkejcaaK3
namespace Go.Proofs.Ytnhbdlgdpkejcaa.lifeTells
open Go.ChangeShapes Go.WideShapes Go.ChangeAt Go.RowKit
set_option linter.unusedVariables false
theorem may_0 (x : Int) : mayB 0 x = false := by simp [mayB]
theorem ofS_snoc (a : Int) (ys : List Int) (x : Int) : ofS a (ys ++ [x]) = if mayB (ofS a ys) x = true then x else 0 := by
  induction ys generalizing a with
  | nil => rfl
  | cons y ys ih =>
    show (if mayB a y = true then ofS y (ys ++ [x]) else 0) = if mayB (if mayB a y = true then ofS y ys else 0) x = true then x else 0
    by_cases h : mayB a y = true
    · rw [if_pos h, if_pos h, ih]
    · rw [if_neg h, if_neg h, may_0]; simp
theorem int_info : (Try.prog.info? 3).map (fun i => (i.zero, i.size, i.bytes)) = some (some (.int .i64 0), 1, 8) := by kernel_rfl
theorem ints_snoc (ys : List Int) (x : Int) : ints (ys ++ [x]) = ints ys ++ [.int .i64 x] := by simp [ints]
theorem ints_len (ys : List Int) : (ints ys).length = ys.length := by simp [ints]

/-- What holds at the loop's head. -/
def Inv (w : World) (n : Nat) (s want i : Value) (wr : World) : Prop :=
  ∃ (k : Nat) (ys : List Int), k ≤ n ∧ k ≤ 6 ∧ ys.length = k ∧ i = .int .i64 k ∧ want = .int .i64 (ofS 1 ys) ∧ wr.ownsRow w.heap.size 3 1 s k (ints ys) ∧ Below w.heap.size w wr

set_option maxRecDepth 100000 in
set_option maxHeartbeats 2000000 in
theorem walk11 (a0 : Int) (a1 : Int) (A2 : Option Addr) (n2 c2 : Nat) (x2 : List Int) (a3 : Int) (w : World) (b0 : -9223372036854775808 ≤ a0 ∧ a0 ≤ 9223372036854775807) (b1 : -9223372036854775808 ≤ a1 ∧ a1 ≤ 9223372036854775807) (b2 : IntRow .i64 w A2 n2 c2 x2) (b3 : -9223372036854775808 ≤ a3 ∧ a3 ≤ 9223372036854775807) (h7 : (a3.tmod 7 != 6) = true) (h5 : (a3.tmod 5 != 4) = true) :
    Calls Try.prog 4 #[.int .i64 a0, .int .i64 a1, .slice A2 n2 c2, .int .i64 a3] w fun e w' => e = .returned (.bool true) ∧ Below w.heap.size w w' := by
  obtain ⟨b21, b22, b23, hr, hwf⟩ := b2
  unfold maxLen at b22
  obtain ⟨i0, hi, hz0, hz1, hz2⟩ := info_parts int_info
  have m1 := Int.emod_nonneg a0 (show (10 : Int) ≠ 0 by omega)
  have m2 := Int.emod_lt_of_pos a0 (show (0 : Int) < 10 by omega)
  have m3 := Int.emod_nonneg a1 (show (10 : Int) ≠ 0 by omega)
  have m4 := Int.emod_lt_of_pos a1 (show (0 : Int) < 10 by omega)
  clear b23
  go_enter Try.func4, Try.ntmps4
  go_wp2_with (go_at_call 9; refine (Within_any _ _ _ (by omega) (by omega) (by omega) (by omega)).mono ?_; rintro e w' ⟨rfl, rfl⟩)
  go_loopw [9, 10, 11] (fun s want i wr => Inv w n2 s want i wr) (fun _ _ i _ => 6 - (intOf i).toNat)
  case atStart => exact ⟨0, [], by omega, by omega, rfl, rfl, rfl, ⟨by simp [ints], .inl ⟨rfl, rfl⟩⟩, Below.refl _ _⟩
  case round =>
    obtain ⟨k, ys, hk, hk6, hlen, rfl, rfl, hown, hbel⟩ := hrel
    by_cases hlt : k < n2 ∧ k < 6
    · obtain ⟨hlt, hlt6⟩ := hlt
      obtain ⟨ad, u, rfl, _, hx, hc⟩ := (hr.below hbel).at_ hlt
      obtain ⟨x, hx1, rfl⟩ : ∃ x, x2[k]? = some x ∧ u = .int .i64 x := by
        simp only [List.getElem?_map, Option.map_eq_some_iff] at hx
        obtain ⟨x, h1, h2⟩ := hx
        exact ⟨x, h1, h2.symm⟩
      have hxb := bounds_i64 (hwf x (List.mem_of_getElem? hx1))
      have n1 := Int.emod_nonneg x (show (7 : Int) ≠ 0 by omega)
      have n2' := Int.emod_lt_of_pos x (show (0 : Int) < 7 by omega)
      have HL := Lib.hid hlen
      clear hx hx1 hlen
      have Hs : Hid (ofS 1 (ys ++ [1 + x % 7]) = if mayB (ofS 1 ys) (1 + x % 7) = true then 1 + x % 7 else 0) := ofS_snoc 1 ys (1 + x % 7)
      generalize ofS 1 ys = S at Hs ⊢
      have hsz := hbel.size
      by_cases hm : mayB S (1 + x % 7) = true
      · have hz : (S != 0) = true := by
          rw [bne_iff_ne]; intro h; rw [h, may_0] at hm; simp at hm
        go_wp2_with (first | (go_at_call 9; refine (Within_any _ _ _ (by omega) (by omega) (by omega) (by omega)).mono ?_; rintro e w' ⟨rfl, rfl⟩) | (go_at_call 12; refine (rMay_any _ _ _).mono ?_; rintro e w' ⟨rfl, rfl⟩) | (at_builtin; go_must (refine wpList_append_own _ rfl _ _ 23 rfl (w.heap.size) 3 i0 (.int .i64 0) 1 8 Try.underlying23 hi hz0 hz1 hz2 rfl (by decide) _ _ _ rfl (hown.alloc _) ⟨wr.heap.size, 0, none⟩ 1 1 [.int .i64 (1 + x % 7)] rfl rfl (cell_one_new _ _ _) (one_cell_int _ _) (by simp only [maxLen]; omega) (by omega) (by simp; omega) ?_); intro v1 w1 hown1 hg1 _hne; have hbel1 := push_below hbel hsz hown _ hg1; clear hg1 _hne))
        have hs2 : ofS 1 (ys ++ [1 + x % 7]) = 1 + x % 7 := by rw [Hs.out, if_pos hm]
        go_roundw
        case rel => exact ⟨k + 1, ys ++ [1 + x % 7], by omega, by omega, by simp [HL.out], by go_num, by rw [hs2], by rw [ints_snoc]; exact hown1, hbel1⟩
        case measure => simp [intOf]; omega
      · have hm' : mayB S (1 + x % 7) = false := by simpa using hm
        have Hs2 : Hid (ofS 1 (ys ++ [1 + x % 7]) = 0) := by show _ = _; rw [Hs.out, if_neg hm]
        clear hm
        by_cases hz : S = 0
        · subst hz
          go_wp2_with (first | (go_at_call 9; refine (Within_any _ _ _ (by omega) (by omega) (by omega) (by omega)).mono ?_; rintro e w' ⟨rfl, rfl⟩) | (go_at_call 12; refine (rMay_any _ _ _).mono ?_; rintro e w' ⟨rfl, rfl⟩) | (at_builtin; go_must (refine wpList_append_own _ rfl _ _ 23 rfl (w.heap.size) 3 i0 (.int .i64 0) 1 8 Try.underlying23 hi hz0 hz1 hz2 rfl (by decide) _ _ _ rfl (hown.alloc _) ⟨wr.heap.size, 0, none⟩ 1 1 [.int .i64 (1 + x % 7)] rfl rfl (cell_one_new _ _ _) (one_cell_int _ _) (by simp only [maxLen]; omega) (by omega) (by simp; omega) ?_); intro v1 w1 hown1 hg1 _hne; have hbel1 := push_below hbel hsz hown _ hg1; clear hg1 _hne))
          have hs2 := Hs2.out
          go_roundw
          case rel => exact ⟨k + 1, ys ++ [1 + x % 7], by omega, by omega, by simp [HL.out], by go_num, by rw [hs2], by rw [ints_snoc]; exact hown1, hbel1⟩
          case measure => simp [intOf]; omega
        · have hz' : (S != 0) = true := by simpa using hz
          go_wp2_with (first | (go_at_call 9; refine (Within_any _ _ _ (by omega) (by omega) (by omega) (by omega)).mono ?_; rintro e w' ⟨rfl, rfl⟩) | (go_at_call 12; refine (rMay_any _ _ _).mono ?_; rintro e w' ⟨rfl, rfl⟩) | (at_builtin; go_must (refine wpList_append_own _ rfl _ _ 23 rfl (w.heap.size) 3 i0 (.int .i64 0) 1 8 Try.underlying23 hi hz0 hz1 hz2 rfl (by decide) _ _ _ rfl (hown.alloc _) ⟨wr.heap.size, 0, none⟩ 1 1 [.int .i64 (1 + x % 7)] rfl rfl (cell_one_new _ _ _) (one_cell_int _ _) (by simp only [maxLen]; omega) (by omega) (by simp; omega) ?_); intro v1 w1 hown1 hg1 _hne; have hbel1 := push_below hbel hsz hown _ hg1; clear hg1 _hne))
          have hs2 := Hs2.out
          go_roundw
          case rel => exact ⟨k + 1, ys ++ [1 + x % 7], by omega, by omega, by simp [HL.out], by go_num, by rw [hs2], by rw [ints_snoc]; exact hown1, hbel1⟩
          case measure => simp [intOf]; omega
    · obtain ⟨A, c, rfl, hAc, hcm⟩ := own_slice hown
      have hread := Reads.of_own hown
      have hsz := hbel.size
      have HL := Lib.hid hlen
      clear hlen
      by_cases hlt2 : k < n2
      all_goals
        go_wp2_with (first | (go_at_call 13; refine (Over_any _ _).mono ?_; rintro e w' ⟨rfl, rfl⟩) | (go_at_call 14; refine (rOver_any _ _).mono ?_; rintro e w' ⟨rfl, rfl⟩) | (go_at_call 15; refine (May_any _ _ _).mono ?_; rintro e w' ⟨rfl, rfl⟩) | (go_at_call 12; refine (rMay_any _ _ _).mono ?_; rintro e w' ⟨rfl, rfl⟩) | (go_at_call 16; refine (Name_any _ _).mono ?_; rintro e w' ⟨rfl, rfl⟩) | (go_at_call 17; refine (rName_any _ _).mono ?_; rintro e w1 ⟨rfl, hb1⟩) | (go_at_call 10; refine (Of_any _ _ _ ys _ ((hread.below hb1).more hb1.size) (by omega)).mono ?_; rintro e w' ⟨rfl, rfl⟩) | (go_at_call 11; refine (wakes9_any _).mono ?_; rintro e w' ⟨rfl, rfl⟩))
        go_ret
        exact ⟨rfl, hbel.trans (hb1.mono hsz)⟩
set_option maxRecDepth 100000 in
set_option maxHeartbeats 2000000 in
theorem walk10 (a0 : Int) (a1 : Int) (A2 : Option Addr) (n2 c2 : Nat) (x2 : List Int) (a3 : Int) (w : World) (b0 : -9223372036854775808 ≤ a0 ∧ a0 ≤ 9223372036854775807) (b1 : -9223372036854775808 ≤ a1 ∧ a1 ≤ 9223372036854775807) (b2 : IntRow .i64 w A2 n2 c2 x2) (b3 : -9223372036854775808 ≤ a3 ∧ a3 ≤ 9223372036854775807) (h7 : (a3.tmod 7 != 6) = true) (h5 : (a3.tmod 5 != 4) = false) :
    Calls Try.prog 4 #[.int .i64 a0, .int .i64 a1, .slice A2 n2 c2, .int .i64 a3] w fun e w' => e = .returned (.bool true) ∧ Below w.heap.size w w' := by
  obtain ⟨b21, b22, b23, hr, hwf⟩ := b2
  unfold maxLen at b22
  obtain ⟨i0, hi, hz0, hz1, hz2⟩ := info_parts int_info
  have m1 := Int.emod_nonneg a0 (show (10 : Int) ≠ 0 by omega)
  have m2 := Int.emod_lt_of_pos a0 (show (0 : Int) < 10 by omega)
  have m3 := Int.emod_nonneg a1 (show (10 : Int) ≠ 0 by omega)
  have m4 := Int.emod_lt_of_pos a1 (show (0 : Int) < 10 by omega)
  clear b23
  go_enter Try.func4, Try.ntmps4
  go_wp2_with (go_at_call 9; refine (Within_any _ _ _ (by omega) (by omega) (by omega) (by omega)).mono ?_; rintro e w' ⟨rfl, rfl⟩)
  go_loopw [9, 10, 11] (fun s want i wr => Inv w n2 s want i wr) (fun _ _ i _ => 6 - (intOf i).toNat)
  case atStart => exact ⟨0, [], by omega, by omega, rfl, rfl, rfl, ⟨by simp [ints], .inl ⟨rfl, rfl⟩⟩, Below.refl _ _⟩
  case round =>
    obtain ⟨k, ys, hk, hk6, hlen, rfl, rfl, hown, hbel⟩ := hrel
    by_cases hlt : k < n2 ∧ k < 6
    · obtain ⟨hlt, hlt6⟩ := hlt
      obtain ⟨ad, u, rfl, _, hx, hc⟩ := (hr.below hbel).at_ hlt
      obtain ⟨x, hx1, rfl⟩ : ∃ x, x2[k]? = some x ∧ u = .int .i64 x := by
        simp only [List.getElem?_map, Option.map_eq_some_iff] at hx
        obtain ⟨x, h1, h2⟩ := hx
        exact ⟨x, h1, h2.symm⟩
      have hxb := bounds_i64 (hwf x (List.mem_of_getElem? hx1))
      have n1 := Int.emod_nonneg x (show (7 : Int) ≠ 0 by omega)
      have n2' := Int.emod_lt_of_pos x (show (0 : Int) < 7 by omega)
      have HL := Lib.hid hlen
      clear hx hx1 hlen
      have Hs : Hid (ofS 1 (ys ++ [x]) = if mayB (ofS 1 ys) (x) = true then x else 0) := ofS_snoc 1 ys (x)
      generalize ofS 1 ys = S at Hs ⊢
      have hsz := hbel.size
      by_cases hm : mayB S (x) = true
      · have hz : (S != 0) = true := by
          rw [bne_iff_ne]; intro h; rw [h, may_0] at hm; simp at hm
        go_wp2_with (first | (go_at_call 9; refine (Within_any _ _ _ (by omega) (by omega) (by omega) (by omega)).mono ?_; rintro e w' ⟨rfl, rfl⟩) | (go_at_call 12; refine (rMay_any _ _ _).mono ?_; rintro e w' ⟨rfl, rfl⟩) | (at_builtin; go_must (refine wpList_append_own _ rfl _ _ 23 rfl (w.heap.size) 3 i0 (.int .i64 0) 1 8 Try.underlying23 hi hz0 hz1 hz2 rfl (by decide) _ _ _ rfl (hown.alloc _) ⟨wr.heap.size, 0, none⟩ 1 1 [.int .i64 (x)] rfl rfl (cell_one_new _ _ _) (one_cell_int _ _) (by simp only [maxLen]; omega) (by omega) (by simp; omega) ?_); intro v1 w1 hown1 hg1 _hne; have hbel1 := push_below hbel hsz hown _ hg1; clear hg1 _hne))
        have hs2 : ofS 1 (ys ++ [x]) = x := by rw [Hs.out, if_pos hm]
        go_roundw
        case rel => exact ⟨k + 1, ys ++ [x], by omega, by omega, by simp [HL.out], by go_num, by rw [hs2], by rw [ints_snoc]; exact hown1, hbel1⟩
        case measure => simp [intOf]; omega
      · have hm' : mayB S (x) = false := by simpa using hm
        have Hs2 : Hid (ofS 1 (ys ++ [x]) = 0) := by show _ = _; rw [Hs.out, if_neg hm]
        clear hm
        by_cases hz : S = 0
        · subst hz
          go_wp2_with (first | (go_at_call 9; refine (Within_any _ _ _ (by omega) (by omega) (by omega) (by omega)).mono ?_; rintro e w' ⟨rfl, rfl⟩) | (go_at_call 12; refine (rMay_any _ _ _).mono ?_; rintro e w' ⟨rfl, rfl⟩) | (at_builtin; go_must (refine wpList_append_own _ rfl _ _ 23 rfl (w.heap.size) 3 i0 (.int .i64 0) 1 8 Try.underlying23 hi hz0 hz1 hz2 rfl (by decide) _ _ _ rfl (hown.alloc _) ⟨wr.heap.size, 0, none⟩ 1 1 [.int .i64 (x)] rfl rfl (cell_one_new _ _ _) (one_cell_int _ _) (by simp only [maxLen]; omega) (by omega) (by simp; omega) ?_); intro v1 w1 hown1 hg1 _hne; have hbel1 := push_below hbel hsz hown _ hg1; clear hg1 _hne))
          have hs2 := Hs2.out
          go_roundw
          case rel => exact ⟨k + 1, ys ++ [x], by omega, by omega, by simp [HL.out], by go_num, by rw [hs2], by rw [ints_snoc]; exact hown1, hbel1⟩
          case measure => simp [intOf]; omega
        · have hz' : (S != 0) = true := by simpa using hz
          go_wp2_with (first | (go_at_call 9; refine (Within_any _ _ _ (by omega) (by omega) (by omega) (by omega)).mono ?_; rintro e w' ⟨rfl, rfl⟩) | (go_at_call 12; refine (rMay_any _ _ _).mono ?_; rintro e w' ⟨rfl, rfl⟩) | (at_builtin; go_must (refine wpList_append_own _ rfl _ _ 23 rfl (w.heap.size) 3 i0 (.int .i64 0) 1 8 Try.underlying23 hi hz0 hz1 hz2 rfl (by decide) _ _ _ rfl (hown.alloc _) ⟨wr.heap.size, 0, none⟩ 1 1 [.int .i64 (x)] rfl rfl (cell_one_new _ _ _) (one_cell_int _ _) (by simp only [maxLen]; omega) (by omega) (by simp; omega) ?_); intro v1 w1 hown1 hg1 _hne; have hbel1 := push_below hbel hsz hown _ hg1; clear hg1 _hne))
          have hs2 := Hs2.out
          go_roundw
          case rel => exact ⟨k + 1, ys ++ [x], by omega, by omega, by simp [HL.out], by go_num, by rw [hs2], by rw [ints_snoc]; exact hown1, hbel1⟩
          case measure => simp [intOf]; omega
    · obtain ⟨A, c, rfl, hAc, hcm⟩ := own_slice hown
      have hread := Reads.of_own hown
      have hsz := hbel.size
      have HL := Lib.hid hlen
      clear hlen
      by_cases hlt2 : k < n2
      all_goals
        go_wp2_with (first | (go_at_call 13; refine (Over_any _ _).mono ?_; rintro e w' ⟨rfl, rfl⟩) | (go_at_call 14; refine (rOver_any _ _).mono ?_; rintro e w' ⟨rfl, rfl⟩) | (go_at_call 15; refine (May_any _ _ _).mono ?_; rintro e w' ⟨rfl, rfl⟩) | (go_at_call 12; refine (rMay_any _ _ _).mono ?_; rintro e w' ⟨rfl, rfl⟩) | (go_at_call 16; refine (Name_any _ _).mono ?_; rintro e w' ⟨rfl, rfl⟩) | (go_at_call 17; refine (rName_any _ _).mono ?_; rintro e w1 ⟨rfl, hb1⟩) | (go_at_call 10; refine (Of_any _ _ _ ys _ ((hread.below hb1).more hb1.size) (by omega)).mono ?_; rintro e w' ⟨rfl, rfl⟩) | (go_at_call 11; refine (wakes9_any _).mono ?_; rintro e w' ⟨rfl, rfl⟩))
        go_ret
        exact ⟨rfl, hbel.trans (hb1.mono hsz)⟩
set_option maxRecDepth 100000 in
set_option maxHeartbeats 2000000 in
theorem walk01 (a0 : Int) (a1 : Int) (A2 : Option Addr) (n2 c2 : Nat) (x2 : List Int) (a3 : Int) (w : World) (b0 : -9223372036854775808 ≤ a0 ∧ a0 ≤ 9223372036854775807) (b1 : -9223372036854775808 ≤ a1 ∧ a1 ≤ 9223372036854775807) (b2 : IntRow .i64 w A2 n2 c2 x2) (b3 : -9223372036854775808 ≤ a3 ∧ a3 ≤ 9223372036854775807) (h7 : (a3.tmod 7 != 6) = false) (h5 : (a3.tmod 5 != 4) = true) :
    Calls Try.prog 4 #[.int .i64 a0, .int .i64 a1, .slice A2 n2 c2, .int .i64 a3] w fun e w' => e = .returned (.bool true) ∧ Below w.heap.size w w' := by
  obtain ⟨b21, b22, b23, hr, hwf⟩ := b2
  unfold maxLen at b22
  obtain ⟨i0, hi, hz0, hz1, hz2⟩ := info_parts int_info
  have m1 := Int.emod_nonneg a0 (show (10 : Int) ≠ 0 by omega)
  have m2 := Int.emod_lt_of_pos a0 (show (0 : Int) < 10 by omega)
  have m3 := Int.emod_nonneg a1 (show (10 : Int) ≠ 0 by omega)
  have m4 := Int.emod_lt_of_pos a1 (show (0 : Int) < 10 by omega)
  clear b23
  go_enter Try.func4, Try.ntmps4
  go_wp2_with (go_at_call 9; refine (Within_any _ _ _ (by omega) (by omega) (by omega) (by omega)).mono ?_; rintro e w' ⟨rfl, rfl⟩)
  go_loopw [9, 10, 11] (fun s want i wr => Inv w n2 s want i wr) (fun _ _ i _ => 6 - (intOf i).toNat)
  case atStart => exact ⟨0, [], by omega, by omega, rfl, rfl, rfl, ⟨by simp [ints], .inl ⟨rfl, rfl⟩⟩, Below.refl _ _⟩
  case round =>
    obtain ⟨k, ys, hk, hk6, hlen, rfl, rfl, hown, hbel⟩ := hrel
    by_cases hlt : k < n2 ∧ k < 6
    · obtain ⟨hlt, hlt6⟩ := hlt
      obtain ⟨ad, u, rfl, _, hx, hc⟩ := (hr.below hbel).at_ hlt
      obtain ⟨x, hx1, rfl⟩ : ∃ x, x2[k]? = some x ∧ u = .int .i64 x := by
        simp only [List.getElem?_map, Option.map_eq_some_iff] at hx
        obtain ⟨x, h1, h2⟩ := hx
        exact ⟨x, h1, h2.symm⟩
      have hxb := bounds_i64 (hwf x (List.mem_of_getElem? hx1))
      have n1 := Int.emod_nonneg x (show (7 : Int) ≠ 0 by omega)
      have n2' := Int.emod_lt_of_pos x (show (0 : Int) < 7 by omega)
      have HL := Lib.hid hlen
      clear hx hx1 hlen
      have Hs : Hid (ofS 1 (ys ++ [1 + x % 7]) = if mayB (ofS 1 ys) (1 + x % 7) = true then 1 + x % 7 else 0) := ofS_snoc 1 ys (1 + x % 7)
      generalize ofS 1 ys = S at Hs ⊢
      have hsz := hbel.size
      by_cases hm : mayB S (1 + x % 7) = true
      · have hz : (S != 0) = true := by
          rw [bne_iff_ne]; intro h; rw [h, may_0] at hm; simp at hm
        go_wp2_with (first | (go_at_call 9; refine (Within_any _ _ _ (by omega) (by omega) (by omega) (by omega)).mono ?_; rintro e w' ⟨rfl, rfl⟩) | (go_at_call 12; refine (rMay_any _ _ _).mono ?_; rintro e w' ⟨rfl, rfl⟩) | (at_builtin; go_must (refine wpList_append_own _ rfl _ _ 23 rfl (w.heap.size) 3 i0 (.int .i64 0) 1 8 Try.underlying23 hi hz0 hz1 hz2 rfl (by decide) _ _ _ rfl (hown.alloc _) ⟨wr.heap.size, 0, none⟩ 1 1 [.int .i64 (1 + x % 7)] rfl rfl (cell_one_new _ _ _) (one_cell_int _ _) (by simp only [maxLen]; omega) (by omega) (by simp; omega) ?_); intro v1 w1 hown1 hg1 _hne; have hbel1 := push_below hbel hsz hown _ hg1; clear hg1 _hne))
        have hs2 : ofS 1 (ys ++ [1 + x % 7]) = 1 + x % 7 := by rw [Hs.out, if_pos hm]
        go_roundw
        case rel => exact ⟨k + 1, ys ++ [1 + x % 7], by omega, by omega, by simp [HL.out], by go_num, by rw [hs2], by rw [ints_snoc]; exact hown1, hbel1⟩
        case measure => simp [intOf]; omega
      · have hm' : mayB S (1 + x % 7) = false := by simpa using hm
        have Hs2 : Hid (ofS 1 (ys ++ [1 + x % 7]) = 0) := by show _ = _; rw [Hs.out, if_neg hm]
        clear hm
        by_cases hz : S = 0
        · subst hz
          go_wp2_with (first | (go_at_call 9; refine (Within_any _ _ _ (by omega) (by omega) (by omega) (by omega)).mono ?_; rintro e w' ⟨rfl, rfl⟩) | (go_at_call 12; refine (rMay_any _ _ _).mono ?_; rintro e w' ⟨rfl, rfl⟩) | (at_builtin; go_must (refine wpList_append_own _ rfl _ _ 23 rfl (w.heap.size) 3 i0 (.int .i64 0) 1 8 Try.underlying23 hi hz0 hz1 hz2 rfl (by decide) _ _ _ rfl (hown.alloc _) ⟨wr.heap.size, 0, none⟩ 1 1 [.int .i64 (1 + x % 7)] rfl rfl (cell_one_new _ _ _) (one_cell_int _ _) (by simp only [maxLen]; omega) (by omega) (by simp; omega) ?_); intro v1 w1 hown1 hg1 _hne; have hbel1 := push_below hbel hsz hown _ hg1; clear hg1 _hne))
          have hs2 := Hs2.out
          go_roundw
          case rel => exact ⟨k + 1, ys ++ [1 + x % 7], by omega, by omega, by simp [HL.out], by go_num, by rw [hs2], by rw [ints_snoc]; exact hown1, hbel1⟩
          case measure => simp [intOf]; omega
        · have hz' : (S != 0) = true := by simpa using hz
          go_wp2_with (first | (go_at_call 9; refine (Within_any _ _ _ (by omega) (by omega) (by omega) (by omega)).mono ?_; rintro e w' ⟨rfl, rfl⟩) | (go_at_call 12; refine (rMay_any _ _ _).mono ?_; rintro e w' ⟨rfl, rfl⟩) | (at_builtin; go_must (refine wpList_append_own _ rfl _ _ 23 rfl (w.heap.size) 3 i0 (.int .i64 0) 1 8 Try.underlying23 hi hz0 hz1 hz2 rfl (by decide) _ _ _ rfl (hown.alloc _) ⟨wr.heap.size, 0, none⟩ 1 1 [.int .i64 (1 + x % 7)] rfl rfl (cell_one_new _ _ _) (one_cell_int _ _) (by simp only [maxLen]; omega) (by omega) (by simp; omega) ?_); intro v1 w1 hown1 hg1 _hne; have hbel1 := push_below hbel hsz hown _ hg1; clear hg1 _hne))
          have hs2 := Hs2.out
          go_roundw
          case rel => exact ⟨k + 1, ys ++ [1 + x % 7], by omega, by omega, by simp [HL.out], by go_num, by rw [hs2], by rw [ints_snoc]; exact hown1, hbel1⟩
          case measure => simp [intOf]; omega
    · obtain ⟨A, c, rfl, hAc, hcm⟩ := own_slice hown
      have hread := Reads.of_own hown
      have hsz := hbel.size
      have HL := Lib.hid hlen
      clear hlen
      by_cases hlt2 : k < n2
      all_goals
        go_wp2_with (first | (go_at_call 13; refine (Over_any _ _).mono ?_; rintro e w' ⟨rfl, rfl⟩) | (go_at_call 14; refine (rOver_any _ _).mono ?_; rintro e w' ⟨rfl, rfl⟩) | (go_at_call 15; refine (May_any _ _ _).mono ?_; rintro e w' ⟨rfl, rfl⟩) | (go_at_call 12; refine (rMay_any _ _ _).mono ?_; rintro e w' ⟨rfl, rfl⟩) | (go_at_call 16; refine (Name_any _ _).mono ?_; rintro e w' ⟨rfl, rfl⟩) | (go_at_call 17; refine (rName_any _ _).mono ?_; rintro e w1 ⟨rfl, hb1⟩) | (go_at_call 10; refine (Of_any _ _ _ ys _ ((hread.below hb1).more hb1.size) (by omega)).mono ?_; rintro e w' ⟨rfl, rfl⟩) | (go_at_call 11; refine (wakes9_any _).mono ?_; rintro e w' ⟨rfl, rfl⟩))
        go_ret
        exact ⟨rfl, hbel.trans (hb1.mono hsz)⟩
set_option maxRecDepth 100000 in
set_option maxHeartbeats 2000000 in
theorem walk00 (a0 : Int) (a1 : Int) (A2 : Option Addr) (n2 c2 : Nat) (x2 : List Int) (a3 : Int) (w : World) (b0 : -9223372036854775808 ≤ a0 ∧ a0 ≤ 9223372036854775807) (b1 : -9223372036854775808 ≤ a1 ∧ a1 ≤ 9223372036854775807) (b2 : IntRow .i64 w A2 n2 c2 x2) (b3 : -9223372036854775808 ≤ a3 ∧ a3 ≤ 9223372036854775807) (h7 : (a3.tmod 7 != 6) = false) (h5 : (a3.tmod 5 != 4) = false) :
    Calls Try.prog 4 #[.int .i64 a0, .int .i64 a1, .slice A2 n2 c2, .int .i64 a3] w fun e w' => e = .returned (.bool true) ∧ Below w.heap.size w w' := by
  obtain ⟨b21, b22, b23, hr, hwf⟩ := b2
  unfold maxLen at b22
  obtain ⟨i0, hi, hz0, hz1, hz2⟩ := info_parts int_info
  have m1 := Int.emod_nonneg a0 (show (10 : Int) ≠ 0 by omega)
  have m2 := Int.emod_lt_of_pos a0 (show (0 : Int) < 10 by omega)
  have m3 := Int.emod_nonneg a1 (show (10 : Int) ≠ 0 by omega)
  have m4 := Int.emod_lt_of_pos a1 (show (0 : Int) < 10 by omega)
  clear b23
  go_enter Try.func4, Try.ntmps4
  go_wp2_with (go_at_call 9; refine (Within_any _ _ _ (by omega) (by omega) (by omega) (by omega)).mono ?_; rintro e w' ⟨rfl, rfl⟩)
  go_loopw [9, 10, 11] (fun s want i wr => Inv w n2 s want i wr) (fun _ _ i _ => 6 - (intOf i).toNat)
  case atStart => exact ⟨0, [], by omega, by omega, rfl, rfl, rfl, ⟨by simp [ints], .inl ⟨rfl, rfl⟩⟩, Below.refl _ _⟩
  case round =>
    obtain ⟨k, ys, hk, hk6, hlen, rfl, rfl, hown, hbel⟩ := hrel
    by_cases hlt : k < n2 ∧ k < 6
    · obtain ⟨hlt, hlt6⟩ := hlt
      obtain ⟨ad, u, rfl, _, hx, hc⟩ := (hr.below hbel).at_ hlt
      obtain ⟨x, hx1, rfl⟩ : ∃ x, x2[k]? = some x ∧ u = .int .i64 x := by
        simp only [List.getElem?_map, Option.map_eq_some_iff] at hx
        obtain ⟨x, h1, h2⟩ := hx
        exact ⟨x, h1, h2.symm⟩
      have hxb := bounds_i64 (hwf x (List.mem_of_getElem? hx1))
      have n1 := Int.emod_nonneg x (show (7 : Int) ≠ 0 by omega)
      have n2' := Int.emod_lt_of_pos x (show (0 : Int) < 7 by omega)
      have HL := Lib.hid hlen
      clear hx hx1 hlen
      have Hs : Hid (ofS 1 (ys ++ [x]) = if mayB (ofS 1 ys) (x) = true then x else 0) := ofS_snoc 1 ys (x)
      generalize ofS 1 ys = S at Hs ⊢
      have hsz := hbel.size
      by_cases hm : mayB S (x) = true
      · have hz : (S != 0) = true := by
          rw [bne_iff_ne]; intro h; rw [h, may_0] at hm; simp at hm
        go_wp2_with (first | (go_at_call 9; refine (Within_any _ _ _ (by omega) (by omega) (by omega) (by omega)).mono ?_; rintro e w' ⟨rfl, rfl⟩) | (go_at_call 12; refine (rMay_any _ _ _).mono ?_; rintro e w' ⟨rfl, rfl⟩) | (at_builtin; go_must (refine wpList_append_own _ rfl _ _ 23 rfl (w.heap.size) 3 i0 (.int .i64 0) 1 8 Try.underlying23 hi hz0 hz1 hz2 rfl (by decide) _ _ _ rfl (hown.alloc _) ⟨wr.heap.size, 0, none⟩ 1 1 [.int .i64 (x)] rfl rfl (cell_one_new _ _ _) (one_cell_int _ _) (by simp only [maxLen]; omega) (by omega) (by simp; omega) ?_); intro v1 w1 hown1 hg1 _hne; have hbel1 := push_below hbel hsz hown _ hg1; clear hg1 _hne))
        have hs2 : ofS 1 (ys ++ [x]) = x := by rw [Hs.out, if_pos hm]
        go_roundw
        case rel => exact ⟨k + 1, ys ++ [x], by omega, by omega, by simp [HL.out], by go_num, by rw [hs2], by rw [ints_snoc]; exact hown1, hbel1⟩
        case measure => simp [intOf]; omega
      · have hm' : mayB S (x) = false := by simpa using hm
        have Hs2 : Hid (ofS 1 (ys ++ [x]) = 0) := by show _ = _; rw [Hs.out, if_neg hm]
        clear hm
        by_cases hz : S = 0
        · subst hz
          go_wp2_with (first | (go_at_call 9; refine (Within_any _ _ _ (by omega) (by omega) (by omega) (by omega)).mono ?_; rintro e w' ⟨rfl, rfl⟩) | (go_at_call 12; refine (rMay_any _ _ _).mono ?_; rintro e w' ⟨rfl, rfl⟩) | (at_builtin; go_must (refine wpList_append_own _ rfl _ _ 23 rfl (w.heap.size) 3 i0 (.int .i64 0) 1 8 Try.underlying23 hi hz0 hz1 hz2 rfl (by decide) _ _ _ rfl (hown.alloc _) ⟨wr.heap.size, 0, none⟩ 1 1 [.int .i64 (x)] rfl rfl (cell_one_new _ _ _) (one_cell_int _ _) (by simp only [maxLen]; omega) (by omega) (by simp; omega) ?_); intro v1 w1 hown1 hg1 _hne; have hbel1 := push_below hbel hsz hown _ hg1; clear hg1 _hne))
          have hs2 := Hs2.out
          go_roundw
          case rel => exact ⟨k + 1, ys ++ [x], by omega, by omega, by simp [HL.out], by go_num, by rw [hs2], by rw [ints_snoc]; exact hown1, hbel1⟩
          case measure => simp [intOf]; omega
        · have hz' : (S != 0) = true := by simpa using hz
          go_wp2_with (first | (go_at_call 9; refine (Within_any _ _ _ (by omega) (by omega) (by omega) (by omega)).mono ?_; rintro e w' ⟨rfl, rfl⟩) | (go_at_call 12; refine (rMay_any _ _ _).mono ?_; rintro e w' ⟨rfl, rfl⟩) | (at_builtin; go_must (refine wpList_append_own _ rfl _ _ 23 rfl (w.heap.size) 3 i0 (.int .i64 0) 1 8 Try.underlying23 hi hz0 hz1 hz2 rfl (by decide) _ _ _ rfl (hown.alloc _) ⟨wr.heap.size, 0, none⟩ 1 1 [.int .i64 (x)] rfl rfl (cell_one_new _ _ _) (one_cell_int _ _) (by simp only [maxLen]; omega) (by omega) (by simp; omega) ?_); intro v1 w1 hown1 hg1 _hne; have hbel1 := push_below hbel hsz hown _ hg1; clear hg1 _hne))
          have hs2 := Hs2.out
          go_roundw
          case rel => exact ⟨k + 1, ys ++ [x], by omega, by omega, by simp [HL.out], by go_num, by rw [hs2], by rw [ints_snoc]; exact hown1, hbel1⟩
          case measure => simp [intOf]; omega
    · obtain ⟨A, c, rfl, hAc, hcm⟩ := own_slice hown
      have hread := Reads.of_own hown
      have hsz := hbel.size
      have HL := Lib.hid hlen
      clear hlen
      by_cases hlt2 : k < n2
      all_goals
        go_wp2_with (first | (go_at_call 13; refine (Over_any _ _).mono ?_; rintro e w' ⟨rfl, rfl⟩) | (go_at_call 14; refine (rOver_any _ _).mono ?_; rintro e w' ⟨rfl, rfl⟩) | (go_at_call 15; refine (May_any _ _ _).mono ?_; rintro e w' ⟨rfl, rfl⟩) | (go_at_call 12; refine (rMay_any _ _ _).mono ?_; rintro e w' ⟨rfl, rfl⟩) | (go_at_call 16; refine (Name_any _ _).mono ?_; rintro e w' ⟨rfl, rfl⟩) | (go_at_call 17; refine (rName_any _ _).mono ?_; rintro e w1 ⟨rfl, hb1⟩) | (go_at_call 10; refine (Of_any _ _ _ ys _ ((hread.below hb1).more hb1.size) (by omega)).mono ?_; rintro e w' ⟨rfl, rfl⟩) | (go_at_call 11; refine (wakes9_any _).mono ?_; rintro e w' ⟨rfl, rfl⟩))
        go_ret
        exact ⟨rfl, hbel.trans (hb1.mono hsz)⟩
theorem walk (a0 : Int) (a1 : Int) (A2 : Option Addr) (n2 c2 : Nat) (x2 : List Int) (a3 : Int) (w : World) (b0 : -9223372036854775808 ≤ a0 ∧ a0 ≤ 9223372036854775807) (b1 : -9223372036854775808 ≤ a1 ∧ a1 ≤ 9223372036854775807) (b2 : IntRow .i64 w A2 n2 c2 x2) (b3 : -9223372036854775808 ≤ a3 ∧ a3 ≤ 9223372036854775807) :
    Calls Try.prog 4 #[.int .i64 a0, .int .i64 a1, .slice A2 n2 c2, .int .i64 a3] w fun e w' => e = .returned (.bool true) ∧ Below w.heap.size w w' := by
  cases h7 : (a3.tmod 7 != 6) <;> cases h5 : (a3.tmod 5 != 4)
  · exact walk00 a0 a1 A2 n2 c2 x2 a3 w b0 b1 b2 b3 h7 h5
  · exact walk01 a0 a1 A2 n2 c2 x2 a3 w b0 b1 b2 b3 h7 h5
  · exact walk10 a0 a1 A2 n2 c2 x2 a3 w b0 b1 b2 b3 h7 h5
  · exact walk11 a0 a1 A2 n2 c2 x2 a3 w b0 b1 b2 b3 h7 h5

end Go.Proofs.Ytnhbdlgdpkejcaa.lifeTells
