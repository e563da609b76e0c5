/- Contracts of the functions of package backoff, and of the plain answers. -/
import Derived.Test.YtgeahhklhelifaaWithin
namespace Go.Proofs.Ytgeahhklhelifaa
open Go.ChangeShapes Go.WideShapes Go.ChangeAt Go.RowKit

def wl (n l : Int) : Int := min (max n l) 1048576
theorem wl_bd (n l : Int) (h0 : 0 ≤ l) (h1 : l ≤ 1048576) : l ≤ wl n l ∧ wl n l ≤ 1048576 := by unfold wl; omega


set_option maxHeartbeats 400000 in
theorem bwithin_any (n l : Int) (w : World) :
    Calls Try.prog 38 #[.int .i64 n, .int .i64 l] w fun e w' => e = .returned (.int .i64 (wl n l)) ∧ w = w' := by
  go_enter Try.func38, Try.ntmps38
  go_wp2
  all_goals
    go_ret
    exact ⟨ret_int (by unfold wl; omega), rfl⟩
set_option maxHeartbeats 400000 in
theorem ticks_any (n l : Int) (w : World) :
    Calls Try.prog 41 #[.int .i64 n, .int .i64 l] w fun e w' => e = .returned (.int .i64 (wl n l)) ∧ w = w' := by
  go_enter Try.func41, Try.ntmps41
  go_wp2
  all_goals
    go_ret
    exact ⟨ret_int (by unfold wl; omega), rfl⟩

def nextI (d m : Int) : Int := min (2 * wl d 1) (wl m 1)
set_option maxHeartbeats 400000 in
theorem Next_any (d m : Int) (w : World) :
    Calls Try.prog 25 #[.int .i64 d, .int .i64 m] w fun e w' => e = .returned (.int .i64 (nextI d m)) ∧ w = w' := by
  have h1 := wl_bd d 1 (by omega) (by omega)
  have h2 := wl_bd m 1 (by omega) (by omega)
  go_enter Try.func25, Try.ntmps25
  go_wp2_with (go_at_call 38; refine (bwithin_any _ _ _).mono ?_; rintro e w' ⟨rfl, rfl⟩)
  all_goals
    go_ret
    exact ⟨ret_int (by unfold nextI; omega), rfl⟩
set_option maxHeartbeats 400000 in
theorem rNext_any (d m : Int) (w : World) :
    Calls Try.prog 31 #[.int .i64 d, .int .i64 m] w fun e w' => e = .returned (.int .i64 (nextI d m)) ∧ w = w' := by
  have h1 := wl_bd d 1 (by omega) (by omega)
  have h2 := wl_bd m 1 (by omega) (by omega)
  go_enter Try.func31, Try.ntmps31
  go_wp2_with (go_at_call 41; refine (ticks_any _ _ _).mono ?_; rintro e w' ⟨rfl, rfl⟩)
  all_goals
    go_ret
    exact ⟨ret_int (by unfold nextI; omega), rfl⟩

def jitI (d r : Int) : Int := (max r 0) % (1 + wl d 1 / 2)
theorem jit_bd (d r : Int) : 0 ≤ jitI d r ∧ 2 * jitI d r ≤ wl d 1 ∧ jitI d r ≤ 524288 := by
  have h1 := wl_bd d 1 (by omega) (by omega)
  have h2 := Int.emod_nonneg (max r 0) (show 1 + wl d 1 / 2 ≠ 0 by omega)
  have h3 := Int.emod_lt_of_pos (max r 0) (show 0 < 1 + wl d 1 / 2 by omega)
  unfold jitI; omega
set_option maxHeartbeats 400000 in
theorem Jitter_any (d r : Int) (w : World) (_hr : r ≤ 9223372036854775807) :
    Calls Try.prog 39 #[.int .i64 d, .int .i64 r] w fun e w' => e = .returned (.int .i64 (jitI d r)) ∧ w = w' := by
  have h1 := wl_bd d 1 (by omega) (by omega)
  by_cases hc : r < 0
  · go_enter Try.func39, Try.ntmps39
    go_wp2_with (go_at_call 38; refine (bwithin_any _ _ _).mono ?_; rintro e w' ⟨rfl, rfl⟩)
    go_ret
    exact ⟨ret_int (by unfold jitI; rw [show max r 0 = 0 by omega]; simp), rfl⟩
  · go_enter Try.func39, Try.ntmps39
    go_wp2_with (go_at_call 38; refine (bwithin_any _ _ _).mono ?_; rintro e w' ⟨rfl, rfl⟩)
    go_ret
    exact ⟨ret_int (by unfold jitI; rw [show max r 0 = r by omega]), rfl⟩
set_option maxHeartbeats 400000 in
theorem rJitter_any (d r : Int) (w : World) (_hr : r ≤ 9223372036854775807) :
    Calls Try.prog 42 #[.int .i64 d, .int .i64 r] w fun e w' => e = .returned (.int .i64 (jitI d r)) ∧ w = w' := by
  have h1 := wl_bd d 1 (by omega) (by omega)
  by_cases hc : r < 0
  · go_enter Try.func42, Try.ntmps42
    go_wp2_with (go_at_call 41; refine (ticks_any _ _ _).mono ?_; rintro e w' ⟨rfl, rfl⟩)
    go_ret
    exact ⟨ret_int (by unfold jitI; rw [show max r 0 = 0 by omega]; simp), rfl⟩
  · go_enter Try.func42, Try.ntmps42
    go_wp2_with (go_at_call 41; refine (ticks_any _ _ _).mono ?_; rintro e w' ⟨rfl, rfl⟩)
    go_ret
    exact ⟨ret_int (by unfold jitI; rw [show max r 0 = r by omega]), rfl⟩

def dueI (n d r : Int) : Int := wl n 0 + max (wl d 1 - jitI d r) 1
set_option maxHeartbeats 400000 in
theorem Due_any (n d r : Int) (w : World) (hr : r ≤ 9223372036854775807) :
    Calls Try.prog 24 #[.int .i64 n, .int .i64 d, .int .i64 r] w fun e w' => e = .returned (.int .i64 (dueI n d r)) ∧ w = w' := by
  have h1 := wl_bd d 1 (by omega) (by omega)
  have h2 := wl_bd n 0 (by omega) (by omega)
  have h4 : wl (wl d 1) 1 = wl d 1 := by simp only [wl]; omega
  have h3 := jit_bd d r
  have h5 : jitI (wl d 1) r = jitI d r := by unfold jitI; rw [h4]
  have H := Lib.hid h5
  clear h5 h4
  go_enter Try.func24, Try.ntmps24
  go_wp2_with (first | (go_at_call 38; refine (bwithin_any _ _ _).mono ?_; rintro e w' ⟨rfl, rfl⟩) | (go_at_call 39; refine (Jitter_any _ _ _ hr).mono ?_; rintro e w' ⟨rfl, rfl⟩; rw [H.out]))
  all_goals
    go_ret
    exact ⟨ret_int (by unfold dueI; omega), rfl⟩
set_option maxHeartbeats 400000 in
theorem rDue_any (n d r : Int) (w : World) (hr : r ≤ 9223372036854775807) :
    Calls Try.prog 30 #[.int .i64 n, .int .i64 d, .int .i64 r] w fun e w' => e = .returned (.int .i64 (dueI n d r)) ∧ w = w' := by
  have h1 := wl_bd d 1 (by omega) (by omega)
  have h2 := wl_bd n 0 (by omega) (by omega)
  have h3 := jit_bd d r
  go_enter Try.func30, Try.ntmps30
  go_wp2_with (first | (go_at_call 41; refine (ticks_any _ _ _).mono ?_; rintro e w' ⟨rfl, rfl⟩) | (go_at_call 42; refine (rJitter_any _ _ _ hr).mono ?_; rintro e w' ⟨rfl, rfl⟩))
  all_goals
    go_ret
    exact ⟨ret_int (by unfold dueI; omega), rfl⟩
end Go.Proofs.Ytgeahhklhelifaa
