/-
  For all integers, the statement BackoffBounds of stage 10 (package backoff) returns true and leaves its arguments as they were. No conditions.
-/
import Derived.Test.YtnhbdlgdpkejcaaRows
import Derived.WalkKit
import Derived.ProofKit
import Derived.OpenShut
import Derived.Lib.Hide
import Derived.Test.YtnhbdlgdpkejcaaK1
namespace Go.Proofs.Ytnhbdlgdpkejcaa.backoffBounds
open Go.ChangeShapes Go.WideShapes Go.ChangeAt Go.RowKit
set_option linter.unusedVariables false
def dd (f m : Int) : Nat → Int
  | 0 => f
  | k + 1 => nextI (dd f m k) m
theorem dd_bd (f m : Int) (hf : 1 ≤ f) (hf2 : f ≤ 1000) (hm : 1 ≤ m) (hm2 : m ≤ 5000) (k : Nat) : 1 ≤ dd f m k ∧ dd f m k ≤ 5000 ∧ (1 ≤ k → dd f m k ≤ m) ∧ (dd f m k = m ∨ (2 : Int) ^ k ≤ dd f m k) := by
  induction k with
  | zero => exact ⟨hf, by show f ≤ 5000; omega, by omega, Or.inr (by show (2 : Int) ^ 0 ≤ f; simpa using hf)⟩
  | succ k ih =>
    obtain ⟨h1, h2, h3, h4⟩ := ih
    have e : dd f m (k + 1) = min (2 * dd f m k) m := by show nextI _ _ = _; simp only [nextI, wl]; omega
    rw [e]
    refine ⟨by omega, by omega, by omega, ?_⟩
    rcases h4 with h | h
    · left; omega
    · by_cases hc : 2 * dd f m k ≤ m
      · right; rw [Int.pow_succ]; omega
      · left; omega
theorem dd_16 (f m : Int) (hf : 1 ≤ f) (hf2 : f ≤ 1000) (hm : 1 ≤ m) (hm2 : m ≤ 5000) : dd f m 16 = m := by
  obtain ⟨_, _, h3, h4⟩ := dd_bd f m hf hf2 hm hm2 16
  rcases h4 with h | h
  · exact h
  · have : (2 : Int) ^ 16 = 65536 := by decide
    have := h3 (by omega)
    omega
theorem due_bd (n d r : Int) (hn : 0 ≤ n) (hn2 : n ≤ 100000) (hd : 1 ≤ d) (hd2 : d ≤ 5000) : n + 1 ≤ dueI n d r ∧ dueI n d r ≤ n + d ∧ d ≤ 2 * (dueI n d r - n) ∧ 0 ≤ jitI d r ∧ 2 * jitI d r ≤ d := by
  have hj := jit_bd d r
  have hw : wl d 1 = d := by unfold wl; omega
  have hw2 : wl n 0 = n := by unfold wl; omega
  unfold dueI
  rw [hw] at hj ⊢
  rw [hw2]
  omega
theorem next_eq (d m : Int) (hd : 1 ≤ d) (hd2 : d ≤ 5000) (hm : 1 ≤ m) (hm2 : m ≤ 5000) : nextI d m = min (2 * d) m := by
  simp only [nextI, wl]; omega
theorem due_one (n r : Int) (hn : 0 ≤ n) (hn2 : n ≤ 100000) : dueI n 1 r = n + 1 := by
  have := due_bd n 1 r hn hn2 (by omega) (by omega)
  omega

set_option maxHeartbeats 1000000 in
theorem walk (a0 : Int) (a1 : Int) (a2 : Int) (a3 : Int) (w0 : (Lit.int .i64 a0).wf = true) (w1 : (Lit.int .i64 a1).wf = true) (w2 : (Lit.int .i64 a2).wf = true) (w3 : (Lit.int .i64 a3).wf = true) (w : World) :
    Calls Try.prog 8 #[.int .i64 a0, .int .i64 a1, .int .i64 a2, .int .i64 a3] w fun e w' => e = .returned (.bool true) ∧ Grown w w' := by
  have b0 := bounds_i64 w0
  have b1 := bounds_i64 w1
  have b2 := bounds_i64 w2
  have b3 := bounds_i64 w3
  clear w0 w1 w2 w3
  have n1 := Int.emod_nonneg a0 (show (100000 : Int) ≠ 0 by omega)
  have n2 := Int.emod_lt_of_pos a0 (show (0 : Int) < 100000 by omega)
  have f1 := Int.emod_nonneg a1 (show (1000 : Int) ≠ 0 by omega)
  have f2 := Int.emod_lt_of_pos a1 (show (0 : Int) < 1000 by omega)
  have m1 := Int.emod_nonneg a2 (show (5000 : Int) ≠ 0 by omega)
  have m2 := Int.emod_lt_of_pos a2 (show (0 : Int) < 5000 by omega)
  generalize hn : a0 % 100000 = n at n1 n2
  generalize hf : a1 % 1000 = f at f1 f2
  generalize hm : a2 % 5000 = m at m1 m2
  have Hn := Lib.hid hn
  have Hf := Lib.hid hf
  have Hm := Lib.hid hm
  clear hn hf hm
  go_enter Try.func8, Try.ntmps8
  go_wp2_with fail
  refine (Within_any _ _ _ (by omega) (by omega) (by omega) (by omega)).mono ?_
  rintro e w' ⟨rfl, rfl⟩
  rw [Hn.out]
  go_wp2_with fail
  refine (Within_any _ _ _ (by omega) (by omega) (by omega) (by omega)).mono ?_
  rintro e w' ⟨rfl, rfl⟩
  rw [Hf.out]
  go_wp2_with fail
  refine (Within_any _ _ _ (by omega) (by omega) (by omega) (by omega)).mono ?_
  rintro e w' ⟨rfl, rfl⟩
  rw [Hm.out]
  go_wp2_with fail
  go_loop [9, 10] (fun d i => ∃ k : Nat, k ≤ 16 ∧ i = .int .i64 k ∧ d = .int .i64 (dd (1 + f) (1 + m) k)) (fun _ i => 16 - (intOf i).toNat)
  case atStart => exact ⟨0, by omega, rfl, rfl⟩
  case round =>
    obtain ⟨k, hk, rfl, rfl⟩ := hrel
    have hb := dd_bd (1 + f) (1 + m) (by omega) (by omega) (by omega) (by omega) k
    by_cases hlt : k < 16
    · have hs : dd (1 + f) (1 + m) (k + 1) = nextI (dd (1 + f) (1 + m) k) (1 + m) := rfl
      have Hs := Lib.hid hs
      obtain ⟨hb1, hb2, _, _⟩ := hb
      have hd := due_bd n (dd (1 + f) (1 + m) k) a3 n1 (by omega) hb1 hb2
      have he := next_eq (dd (1 + f) (1 + m) k) (1 + m) hb1 hb2 (by omega) (by omega)
      clear hs
      generalize hD : dd (1 + f) (1 + m) k = D at *
      generalize hE : nextI D (1 + m) = E at *
      have HE := Lib.hid hE
      obtain ⟨hd1, hd2, hd3, hd4, hd5⟩ := hd
      have he1 : E ≤ 2 * D := by omega
      have he2 : E ≤ 1 + m := by omega
      have he3 : 1 ≤ E := by omega
      have he4 : ¬ (E < 2 * D ∧ E < 1 + m) := by omega
      have he5 : (E != if 1 + m < 2 * D then 1 + m else 2 * D) = false := by rw [bne_eq_false_iff_eq]; split <;> omega
      clear hE hD he
      go_wp2_with (first | (go_at_call 20; refine (Next_any _ _ _).mono ?_; rintro e w' ⟨rfl, rfl⟩; rw [HE.out]) | (go_at_call 18; refine (Jitter_any _ _ _ (by omega)).mono ?_; rintro e w' ⟨rfl, rfl⟩) | (go_at_call 19; refine (Due_any _ _ _ _ (by omega)).mono ?_; rintro e w' ⟨rfl, rfl⟩))
      go_round
      case rel => exact ⟨k + 1, by omega, by go_num, by rw [Hs.out]⟩
      case measure => simp [intOf]; omega
    · have : k = 16 := by omega
      subst this
      have h16 := dd_16 (1 + f) (1 + m) (by omega) (by omega) (by omega) (by omega)
      have hone := due_one n a3 (by omega) (by omega)
      have hnx : nextI 1048576 1048576 = 1048576 := by simp only [nextI, wl]; omega
      rw [h16]
      clear hb h16
      go_wp2_with (first | (go_at_call 20; refine (Next_any _ _ _).mono ?_; rintro e w' ⟨rfl, rfl⟩) | (go_at_call 19; refine (Due_any _ _ _ _ (by omega)).mono ?_; rintro e w' ⟨rfl, rfl⟩) | (go_at_call 21; refine (wakes10_any _).mono ?_; rintro e w' ⟨rfl, rfl⟩))
      all_goals
        go_ret
        exact ⟨rfl, by repeat (first | exact Grown.refl _ | apply Grown.drew | apply Grown.alloc)⟩

end Go.Proofs.Ytnhbdlgdpkejcaa.backoffBounds
