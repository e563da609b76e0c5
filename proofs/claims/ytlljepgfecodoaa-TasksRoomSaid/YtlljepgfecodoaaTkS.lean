/- The contract of need.Sum: a sum has the sums of the parts. -/
import Derived.Test.YtlljepgfecodoaaFloat2
import Derived.Test.YtlljepgfecodoaaCrewM
import Derived.Test.YtlljepgfecodoaaWithin
namespace Go.Proofs.Ytlljepgfecodoaa
open Go.ChangeShapes Go.WideShapes Go.ChangeAt Go.RowKit
theorem fw_add {a b : Nat} (h : a + b < 2 ^ 53) : FloatKind.f64.format.add (fw a) (fw b) = some (fw (a + b)) :=
  add_eq (M := a + b) (k := 0) (fw_FV (by omega)) (fw_FV (by omega)) h (by omega) (by
    rw [show (2 : Nat) ^ (LP - 0) = U by unfold U; rw [Nat.sub_zero], Nat.add_mul])
theorem cfw_add {P : Program} {t : TypeId} {a b c d : Nat} (h1 : a + c < 2 ^ 53) (h2 : b + d < 2 ^ 53) (w : World) : (binOp .add t (.complex .f64 (fw a) (fw b)) (.complex .f64 (fw c) (fw d))).run P w = .ok (.complex .f64 (fw (a + c)) (fw (b + d))) w :=
  run_complex_sum w .add (.inl rfl) t .f64 _ _ _ _ _ _ (by unfold cSumBits floatBits; simp only [fw_add h1, fw_add h2, Option.bind_some])
def cv (p : Nat × Nat) : Value := .complex .f64 (fw p.1) (fw p.2)
def sA (l : List (Nat × Nat)) : Nat := (l.map (·.1)).sum
def sB (l : List (Nat × Nat)) : Nat := (l.map (·.2)).sum
theorem sA_take {l : List (Nat × Nat)} {k : Nat} {p : Nat × Nat} (h : l[k]? = some p) : sA (l.take (k + 1)) = sA (l.take k) + p.1 := by
  unfold sA; rw [List.take_add_one, h]; simp
theorem sB_take {l : List (Nat × Nat)} {k : Nat} {p : Nat × Nat} (h : l[k]? = some p) : sB (l.take (k + 1)) = sB (l.take k) + p.2 := by
  unfold sB; rw [List.take_add_one, h]; simp
theorem sA_le (l : List (Nat × Nat)) (k : Nat) : sA (l.take k) ≤ sA l := by
  have h : sA (l.take k) + sA (l.drop k) = sA l := by unfold sA; rw [← List.sum_append, ← List.map_append, List.take_append_drop]
  omega
theorem sB_le (l : List (Nat × Nat)) (k : Nat) : sB (l.take k) ≤ sB l := by
  have h : sB (l.take k) + sB (l.drop k) = sB l := by unfold sB; rw [← List.sum_append, ← List.map_append, List.take_append_drop]
  omega
theorem cv_at {w : World} {B n k : Nat} {A : Option Addr} {l : List (Nat × Nat)} (hr : Reads w B 1 A n (l.map cv)) (hk : k < n) : ∃ ad p, A = some ad ∧ l[k]? = some p ∧ w.cell? (ad.add k) = some (.complex .f64 (fw p.1) (fw p.2)) := by
  obtain ⟨ad, u, rfl, _, hx, hc⟩ := hr.at_ hk
  simp only [List.getElem?_map, Option.map_eq_some_iff] at hx
  obtain ⟨x, h1, h2⟩ := hx
  exact ⟨ad, x, rfl, h1, by rw [hc, ← h2]; rfl⟩
set_option maxRecDepth 100000 in
set_option maxHeartbeats 1000000 in
theorem Sum_any (A : Option Addr) (n c : Nat) (l : List (Nat × Nat)) (B : Nat) (w : World) (hB : B ≤ w.heap.size) (hr : Reads w B 1 A n (l.map cv)) (hn : n ≤ 9223372036854775807) (h1 : sA l < 2 ^ 53) (h2 : sB l < 2 ^ 53) :
    Calls Try.prog 16 #[.slice A n c] w fun e w' => e = .returned (.complex .f64 (fw (sA l)) (fw (sB l))) ∧ Below w.heap.size w w' := by
  have hl : l.length = n := by have := hr.1; simpa using this
  have HL := Lib.hid hl
  have H1 := Lib.hid h1
  have H2 := Lib.hid h2
  have H0 := Lib.hid fw_zero
  clear hl h1 h2
  go_enter Try.func16, Try.ntmps16
  go_wp2_with fail
  go_loopw [3, 8] (fun s i wr => ∃ k : Nat, k ≤ n ∧ i = .int .i64 k ∧ s = .complex .f64 (fw (sA (l.take k))) (fw (sB (l.take k))) ∧ Below w.heap.size w wr) (fun _ i _ => n - (intOf i).toNat)
  case atStart =>
    refine ⟨0, Nat.zero_le _, rfl, ?_, Below.refl _ _⟩
    show Value.complex .f64 0 0 = .complex .f64 (fw 0) (fw 0)
    rw [H0.out]
  case round =>
    obtain ⟨k, hk, rfl, rfl, hbel⟩ := hrel
    by_cases hlt : k < n
    · obtain ⟨ad, p, rfl, hx, hc⟩ := cv_at ((hr.more hB).below hbel) hlt
      have k1 : (k : Int) < (n : Int) := by omega
      have e1 := sA_take hx
      have e2 := sB_take hx
      have g1 : sA (l.take k) + p.1 < 2 ^ 53 := by have := sA_le l (k + 1); have := H1.out; omega
      have g2 : sB (l.take k) + p.2 < 2 ^ 53 := by have := sB_le l (k + 1); have := H2.out; omega
      have hadd := fun w => cfw_add (P := Try.prog) (t := 25) g1 g2 w
      rw [← e1, ← e2] at hadd
      clear g1 g2 e1 e2 hx
      generalize sA (l.take k) = s1 at *
      generalize sB (l.take k) = s2 at *
      go_wp2
      go_roundw
      case rel => exact ⟨k + 1, by omega, by go_num, rfl, hbel⟩
      case measure => simp [intOf]; omega
    · have hkn : k = n := by omega
      subst hkn
      rw [List.take_of_length_le (by have := HL.out; omega)]
      go_wp2
      go_ret
      exact ⟨rfl, hbel⟩
set_option maxHeartbeats 400000 in
theorem Fits_any (a b c d : Nat) (w : World) : Calls Try.prog 17 #[.complex .f64 a b, .complex .f64 c d] w fun e w' => e = .returned (.bool (leF a c && leF b d)) ∧ w = w' := by
  cases h1 : leF a c
  all_goals
    unfold leF at h1
    go_enter Try.func17, Try.ntmps17
    go_wp2
    go_ret
    exact ⟨ret_bool (by unfold leF; simp), rfl⟩
end Go.Proofs.Ytlljepgfecodoaa
