/-
  For all integers, the statement BackoffDraws of stage 10 (package backoff) returns true and leaves its arguments as they were. No conditions.
-/
import Derived.Test.YtnhbdlgdpkejcaaRows
import Derived.WalkKit
import Derived.ProofKit
import Derived.OpenShut
import Derived.Lib.Hide
import Derived.Test.YtnhbdlgdpkejcaaK1
namespace Go.Proofs.Ytnhbdlgdpkejcaa.backoffDraws
open Go.ChangeShapes Go.WideShapes Go.ChangeAt Go.RowKit
set_option linter.unusedVariables false
theorem jit_eq (d r : Int) (hd : 1 ≤ d) (hd2 : d ≤ 5000) (hr : 0 ≤ r) : jitI d r = r % (d / 2 + 1) := by
  unfold jitI
  rw [show wl d 1 = d by unfold wl; omega, show max r 0 = r by omega, show 1 + d / 2 = d / 2 + 1 by omega]
theorem jit_neg (d r : Int) (hr : r < 0) : jitI d r = 0 := by
  unfold jitI; rw [show max r 0 = 0 by omega]; simp
theorem jit_one (r : Int) : jitI 1 r = 0 := by
  have := jit_bd 1 r
  have h : wl 1 1 = 1 := by unfold wl; omega
  rw [h] at this; omega
theorem due_eq (n d r : Int) (hn : 0 ≤ n) (hn2 : n ≤ 1000) (hd : 1 ≤ d) (hd2 : d ≤ 5000) : dueI n d r = n + max (d - jitI d r) 1 := by
  unfold dueI
  rw [show wl d 1 = d by unfold wl; omega, show wl n 0 = n by unfold wl; omega]

set_option maxHeartbeats 1000000 in
theorem walk (a0 : Int) (a1 : Int) (a2 : Int) (w0 : (Lit.int .i64 a0).wf = true) (w1 : (Lit.int .i64 a1).wf = true) (w2 : (Lit.int .i64 a2).wf = true) (w : World) :
    Calls Try.prog 6 #[.int .i64 a0, .int .i64 a1, .int .i64 a2] w fun e w' => e = .returned (.bool true) ∧ Grown w w' := by
  have b0 := bounds_i64 w0
  have b1 := bounds_i64 w1
  have b2 := bounds_i64 w2
  clear w0 w1 w2
  have d1 := Int.emod_nonneg a0 (show (5000 : Int) ≠ 0 by omega)
  have d2 := Int.emod_lt_of_pos a0 (show (0 : Int) < 5000 by omega)
  have r1 := Int.emod_nonneg a1 (show (1073741824 : Int) ≠ 0 by omega)
  have r2 := Int.emod_lt_of_pos a1 (show (0 : Int) < 1073741824 by omega)
  have n1 := Int.emod_nonneg a2 (show (1000 : Int) ≠ 0 by omega)
  have n2 := Int.emod_lt_of_pos a2 (show (0 : Int) < 1000 by omega)
  generalize hd : a0 % 5000 = d at d1 d2
  generalize hr : a1 % 1073741824 = r at r1 r2
  generalize hn : a2 % 1000 = n at n1 n2
  have Hd := Lib.hid hd
  have Hr := Lib.hid hr
  have Hn := Lib.hid hn
  clear hd hr hn
  go_enter Try.func6, Try.ntmps6
  go_wp2_with fail
  refine (Within_any _ _ _ (by omega) (by omega) (by omega) (by omega)).mono ?_
  rintro e w' ⟨rfl, rfl⟩
  rw [Hd.out]
  go_wp2_with fail
  refine (Within_any _ _ _ (by omega) (by omega) (by omega) (by omega)).mono ?_
  rintro e w' ⟨rfl, rfl⟩
  rw [Hr.out]
  go_wp2_with fail
  refine (Within_any _ _ _ (by omega) (by omega) (by omega) (by omega)).mono ?_
  rintro e w' ⟨rfl, rfl⟩
  rw [Hn.out]
  go_wp2_with fail
  have j1 := Int.emod_nonneg r (show ((1 + d) / 2 + 1) ≠ 0 by omega)
  have j2 := Int.emod_lt_of_pos r (show 0 < ((1 + d) / 2 + 1) by omega)
  have e1 := jit_eq (1 + d) r (by omega) (by omega) r1
  have e2 := jit_eq (1 + d) (r + ((1 + d) / 2 + 1)) (by omega) (by omega) (by omega)
  rw [Int.add_emod_right] at e2
  have e3 := jit_neg (1 + d) (-1 - r) (by omega)
  have e4 := jit_one r
  have e5 := due_eq n (1 + d) r n1 (by omega) (by omega) (by omega)
  rw [e1] at e5
  have e6 : nextI 0 5 = 2 := by simp only [nextI, wl]; omega
  have e7 : nextI 1 5 = 2 := by simp only [nextI, wl]; omega
  have e8 : nextI (-r) 5 = 2 := by simp only [nextI, wl]; omega
  have e9 : nextI (1 + d) 0 = 1 := by simp only [nextI, wl]; omega
  have e10 : nextI (1 + d) (-r - 1) = 1 := by simp only [nextI, wl]; omega
  have e11 : nextI (1048576 + r) (1048576 + r) = 1048576 := by simp only [nextI, wl]; omega
  have e12 : dueI (-1 - n) 3 0 = 3 := by
    have := jit_bd 3 0
    have : jitI 3 0 = 0 := by unfold jitI; simp
    unfold dueI; rw [this]; simp only [wl]; omega
  have e13 : dueI (1048576 + n) 3 0 = 1048579 := by
    have : jitI 3 0 = 0 := by unfold jitI; simp
    unfold dueI; rw [this]; simp only [wl]; omega
  have e14 : dueI n (1 + d) r = n + (1 + d - r % ((1 + d) / 2 + 1)) := by rw [e5]; omega
  clear e5
  have j3 : ¬ (1 + d - r % ((1 + d) / 2 + 1) < 1) := by omega
  go_wp2_with (first | (go_at_call 20; refine (Next_any _ _ _).mono ?_; rintro e w' ⟨rfl, rfl⟩) | (go_at_call 18; refine (Jitter_any _ _ _ (by omega)).mono ?_; rintro e w' ⟨rfl, rfl⟩) | (go_at_call 19; refine (Due_any _ _ _ _ (by omega)).mono ?_; rintro e w' ⟨rfl, rfl⟩) | (go_at_call 21; refine (wakes10_any _).mono ?_; rintro e w' ⟨rfl, rfl⟩))
  all_goals
    go_ret
    exact ⟨rfl, by repeat (first | exact Grown.refl _ | apply Grown.drew | apply Grown.alloc)⟩

end Go.Proofs.Ytnhbdlgdpkejcaa.backoffDraws
