/- The contract of the statement's digits. -/
import Derived.Test.YtlldpgjifdfogaaSNum
namespace Go.Proofs.Ytlldpgjifdfogaa
open Go.ChangeShapes Go.WideShapes Go.ChangeAt Go.RowKit
set_option linter.unusedVariables false
def tenS : ByteArray := ⟨#[48, 49, 50, 51, 52, 53, 54, 55, 56, 57]⟩
theorem tenS_at (r : Nat) (h : r < 10) : (tenS.extract r 10).extract 0 1 = ⟨#[UInt8.ofNat (48 + r)]⟩ ∧ (tenS.extract r 10).size = 10 - r := by
  obtain h | h | h | h | h | h | h | h | h | h : r = 0 ∨ r = 1 ∨ r = 2 ∨ r = 3 ∨ r = 4 ∨ r = 5 ∨ r = 6 ∨ r = 7 ∨ r = 8 ∨ r = 9 := by omega
  all_goals
    subst h
    exact ⟨by decide +kernel, by decide +kernel⟩
theorem snocB (A : List UInt8) (x : UInt8) : ((⟨A.toArray⟩ : ByteArray) ++ ⟨#[x]⟩) = ⟨(A ++ [x]).toArray⟩ := by
  apply ByteArray.ext
  rw [ByteArray.data_append]
  simp
set_option maxRecDepth 100000
set_option maxHeartbeats 4000000 in
theorem digits_any : ∀ (n : Nat) (w : World), n < 1000000000 → Calls Try.prog 81 #[.int .i64 n] w fun e w' => e = .returned (.string ⟨(digL n).toArray⟩) ∧ ∃ k, w' = w.drewN k := by
  intro n
  induction n using Nat.strongRecOn with
  | _ n ih =>
    intro w hn
    by_cases h : n < 10
    · have ht := tenS_at n h
      have hd : digL n = [UInt8.ofNat (48 + n)] := by unfold digL; rw [dif_pos h]
      rw [hd]
      clear hd
      unfold tenS at ht
      obtain ⟨ht1, ht2⟩ := ht
      go_enter Try.func81, Try.ntmps81
      go_wp2
      go_ret
      exact ⟨by simp, 0, rfl⟩
    · have ht := tenS_at (n % 10) (by omega)
      have hd : digL n = digL (n / 10) ++ [UInt8.ofNat (48 + n % 10)] := by rw [digL, dif_neg h]
      rw [hd]
      clear hd
      unfold tenS at ht
      obtain ⟨ht1, ht2⟩ := ht
      have hI := fun w' => ih (n / 10) (by omega) w' (by omega)
      have hw : IntKind.i64.wrap ((n : Int) / 10) = (n : Int) / 10 := by
        simp only [IntKind.wrap, IntKind.bits, IntKind.signed]
        simp
        omega
      rw [show ((n / 10 : Nat) : Int) = (n : Int) / 10 by omega] at hI
      have hI2 : ∀ nq, Calls Try.prog 81 #[.int .i64 ((n : Int) / 10)] (w.drewN nq) fun e w'' => e = .returned (.string ⟨(digL (n / 10)).toArray⟩) ∧ ∃ m, w'' = w.drewN m := fun nq => Calls.quiet_of (hI _)
      clear hI
      clear ih
      have hmod : (n : Int).tmod 10 = ((n % 10 : Nat) : Int) := by rw [Int.tmod_eq_emod_of_nonneg (by omega)]; omega
      have hr9 : n % 10 < 10 := by omega
      generalize n % 10 = r at *
      have hr10 : (r : Int) ≤ 10 := by omega
      have hr1 : 1 ≤ 10 - r := by omega
      have hdl : ¬ 9223372036854775807 < (digL (n / 10)).length + 1 := by have := digL_len 8 (n / 10) (by omega); omega
      have hr1i : (1 : Int) ≤ ((10 - r : Nat) : Int) := by omega
      go_enter Try.func81, Try.ntmps81
      go_wp2
      go_quiet (first | (go_at_call 81; exact hI2 _))
      go_wp2
      go_ret
      refine ⟨?_, nq, rfl⟩
      show Ending.returned (Value.string (⟨(digL (n / 10)).toArray⟩ ++ ⟨#[48 + UInt8.ofNat r]⟩)) = _
      rw [snocB, show (48 + UInt8.ofNat r : UInt8) = UInt8.ofNat (48 + r) by simp]
end Go.Proofs.Ytlldpgjifdfogaa
