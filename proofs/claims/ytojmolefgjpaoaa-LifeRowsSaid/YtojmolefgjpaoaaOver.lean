/- Numbers that are not known, but for their rests: what hostlerkeep.Within tells of them. -/
import Derived.Test.YtojmolefgjpaoaaRun
import Derived.Test.YtojmolefgjpaoaaWithin
namespace Go.Proofs.Ytojmolefgjpaoaa
open Go Go.RowKit

def restOf : List (Nat × Int × Int) → Nat → Int → Option Int
  | [], _, _ => none
  | (k, n, r) :: l, k', n' => if k = k' ∧ n = n' then some r else restOf l k' n'
def overW (l : List (Nat × Int × Int)) (f : FuncId) (args : List Value) : Option Value :=
  match args with
  | [.chan (some k), .int .i64 n] => if f = 14 then (restOf l k n).map (.int .i64) else none
  | _ => none
theorem restOf_mem : ∀ {l : List (Nat × Int × Int)} {k : Nat} {n r : Int}, restOf l k n = some r → (k, n, r) ∈ l
  | [], _, _, _, h => by simp [restOf] at h
  | (k0, n0, r0) :: l, k, n, r, h => by
    simp only [restOf] at h
    split at h
    · rename_i e
      injection h with h
      obtain ⟨rfl, rfl⟩ := e
      subst h
      simp
    · exact List.mem_cons_of_mem _ (restOf_mem h)
theorem within_fn : ∃ fn, Try.prog.funcs[14]? = some fn ∧ fn.body.isNone = false ∧ (fn.name == "runtime.NumGoroutine") = false := ⟨_, Try.func14, rfl, by decide +kernel⟩
theorem overW_ok [Toks] (l : List (Nat × Int × Int)) (hA : ∀ k, -9223372036854775808 ≤ Toks.A k ∧ Toks.A k ≤ 9223372036854775807) (hl : ∀ q ∈ l, 1 ≤ q.2.1 ∧ q.2.1 ≤ 9223372036854775807 ∧ Toks.A q.1 % q.2.1 = q.2.2) : OverOk Try.prog (overW l) := by
  intro f args v hv ρ w args' ha
  unfold overW at hv
  split at hv
  · rename_i k n
    split at hv
    · rename_i hf
      subst hf
      simp only [Option.map_eq_some_iff] at hv
      obtain ⟨r, hr, rfl⟩ := hv
      obtain ⟨h1, h2, h3⟩ := hl _ (restOf_mem hr)
      obtain ⟨arr⟩ := args'
      cases ha with
      | cons g1 ha =>
        cases ha with
        | cons g2 ha =>
          cases ha
          obtain rfl := g2.int
          rename_i b
          have hb : b = .int .i64 (Toks.A k) := g1
          subst hb
          obtain ⟨fn, f1, f2, f3⟩ := within_fn
          refine ⟨fn, f1, f2, f3, (Within_any (Toks.A k) n w (hA k).1 (hA k).2 h1 h2).mono fun e w' ⟨he, hw⟩ => ⟨_, he, ?_, hw⟩⟩
          simp only at h3
          rw [h3]
          exact VR.flat rfl
    · cases hv
  · cases hv
theorem mixed : Try.prog.follows .mixedOrders = true := by decide +kernel
end Go.Proofs.Ytojmolefgjpaoaa
