/- backoff.Jitter as known by a contract: of a draw that is not known, by its rest. -/
import Derived.Test.YtikbklfbinanpaaGreatDoorCfg
namespace Go.Proofs.YtikbklfbinanpaaGreatDoor
open Go Go.RowKit Go.ChangeShapes Go.WideShapes Go.ChangeAt

def wl (n l : Int) : Int := min (max n l) 1048576
theorem wl_bd (n l : Int) (h0 : 0 ≤ l) (h1 : l ≤ 1048576) : l ≤ wl n l ∧ wl n l ≤ 1048576 := by unfold wl; omega
set_option maxHeartbeats 400000 in
theorem bwithin_any (n l : Int) (w : World) :
    Calls Tryz.prog 151 #[.int .i64 n, .int .i64 l] w fun e w' => e = .returned (.int .i64 (wl n l)) ∧ w = w' := by
  go_enter Tryz.func151, Tryz.ntmps151
  go_wp2
  all_goals
    go_ret
    exact ⟨ret_int (by unfold wl; omega), rfl⟩
def jitI (d r : Int) : Int := (max r 0) % (1 + wl d 1 / 2)
theorem jit_bd (d r : Int) : 0 ≤ jitI d r ∧ jitI d r < 1 + wl d 1 / 2 := by
  have h1 := wl_bd d 1 (by omega) (by omega)
  have h2 := Int.emod_nonneg (max r 0) (show 1 + wl d 1 / 2 ≠ 0 by omega)
  have h3 := Int.emod_lt_of_pos (max r 0) (show 0 < 1 + wl d 1 / 2 by omega)
  unfold jitI; omega
set_option maxHeartbeats 400000 in
theorem Jitter_any (d r : Int) (w : World) (_hr : r ≤ 9223372036854775807) :
    Calls Tryz.prog 152 #[.int .i64 d, .int .i64 r] w fun e w' => e = .returned (.int .i64 (jitI d r)) ∧ w = w' := by
  have h1 := wl_bd d 1 (by omega) (by omega)
  by_cases hc : r < 0
  · go_enter Tryz.func152, Tryz.ntmps152
    go_wp2_with (go_at_call 151; refine (bwithin_any _ _ _).mono ?_; rintro e w' ⟨rfl, rfl⟩)
    go_ret
    exact ⟨ret_int (by unfold jitI; rw [show max r 0 = 0 by omega]; simp), rfl⟩
  · go_enter Tryz.func152, Tryz.ntmps152
    go_wp2_with (go_at_call 151; refine (bwithin_any _ _ _).mono ?_; rintro e w' ⟨rfl, rfl⟩)
    go_ret
    exact ⟨ret_int (by unfold jitI; rw [show max r 0 = r by omega]), rfl⟩
theorem cover_jit [Toks] {t m : Nat} {d : Int} {l : List (Nat × Nat)} (h : coverOk m l = true) {a : Int} (hm : 1 + wl d 1 / 2 = (m : Int)) (hA : Toks.A t = jitI d a) : ∃ c ∈ l, ∀ ρ : Ren, VR ρ (caseV t c) (.int .i64 (jitI d a)) := by
  obtain ⟨h1, h2⟩ := jit_bd d a
  obtain ⟨r, hr⟩ : ∃ r : Nat, jitI d a = r := ⟨(jitI d a).toNat, by omega⟩
  simp only [coverOk, List.all_eq_true, List.any_eq_true, Bool.and_eq_true, Nat.ble_eq] at h
  obtain ⟨c, hc, k1, k2⟩ := h r (List.mem_range.2 (by omega))
  refine ⟨c, hc, fun ρ => ?_⟩
  unfold caseV
  split
  · have : c.1 = r := by omega
    rw [hr, this]
    exact VR.flat rfl
  · show _ = _ ∧ _ ∧ _
    rw [hA, hr]
    exact ⟨by rw [Int.add_zero], by omega, by omega⟩
def overJ (l lj : List (Nat × Int × Value)) (f : FuncId) (args : List Value) : Option Value :=
  match args with
  | [.int .i64 d, .chan (some k)] => if f = 152 then restOf lj k d else none
  | args => overW l f args
theorem jitter_fn : ∃ fn, Tryz.prog.funcs[152]? = some fn ∧ fn.body.isNone = false ∧ (fn.name == "runtime.NumGoroutine") = false := ⟨_, Tryz.func152, rfl, by decide +kernel⟩
theorem overJ_ok [Toks] (l lj : List (Nat × Int × Value)) (h : OverOk Tryz.prog (overW l)) (hA : ∀ q ∈ lj, Toks.A q.1 ≤ 9223372036854775807) (hl : ∀ q ∈ lj, ∀ ρ : Ren, VR ρ q.2.2 (.int .i64 (jitI q.2.1 (Toks.A q.1)))) : OverOk Tryz.prog (overJ l lj) := by
  intro f args v hv ρ w args' ha
  unfold overJ at hv
  split at hv
  · rename_i d k
    split at hv
    · rename_i hf
      subst hf
      have hm := restOf_mem hv
      have h3 := hl _ hm
      have h4 := hA _ hm
      obtain ⟨arr⟩ := args'
      cases ha with
      | cons g1 ha =>
        cases ha with
        | cons g2 ha =>
          cases ha
          obtain rfl := g1.int
          rename_i b
          have hb : b = .int .i64 (Toks.A k) := g2
          subst hb
          obtain ⟨fn, f1, f2, f3⟩ := jitter_fn
          exact ⟨fn, f1, f2, f3, (Jitter_any d (Toks.A k) w h4).mono fun e w' ⟨he, hw⟩ => ⟨_, he, h3 ρ, hw⟩⟩
    · cases hv
  · exact h f args v hv ρ w args' ha
end Go.Proofs.YtikbklfbinanpaaGreatDoor
