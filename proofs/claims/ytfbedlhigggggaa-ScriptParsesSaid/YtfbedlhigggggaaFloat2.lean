/- Whole parts of floats; math.Trunc. -/
import Derived.Test.YtfbedlhigggggaaFloat
import Derived.Test.YtfbedlhigggggaaBase
import Derived.Test.YtfbedlhigggggaaRows
namespace Go.Proofs.Ytfbedlhigggggaa
open Go Ieee Go.RowKit

theorem cut_zero (s : Bool) (n d : Nat) : Toward.zero.cut s n d = n / 2 ^ d := by
  unfold Toward.cut
  simp only [Nat.shiftLeft_eq, Nat.one_mul, Bool.toNat_false, Nat.add_zero]
  rcases Nat.le_total d (n.log2 + 2) with h | h
  · rw [Nat.min_eq_left h]
  · rw [Nat.min_eq_right h]
    have h1 : n < 2 ^ (n.log2 + 1) := Nat.lt_log2_self
    have h2 : (2 : Nat) ^ (n.log2 + 1) ≤ 2 ^ (n.log2 + 2) := Nat.pow_le_pow_right (by omega) (by omega)
    have h3 : (2 : Nat) ^ (n.log2 + 2) ≤ 2 ^ d := Nat.pow_le_pow_right (by omega) h
    rw [Nat.div_eq_of_lt (Nat.lt_of_lt_of_le h1 h2), Nat.div_eq_of_lt (Nat.lt_of_lt_of_le h1 (Nat.le_trans h2 h3))]
theorem whole_part {m : Nat} {e : Int} (he : -1074 ≤ e) : (m <<< e.toNat) / 2 ^ (-e).toNat = m * 2 ^ (e + 1074).toNat / U := by
  have hLP := LP_eq
  rcases Int.le_total 0 e with h | h
  · rw [show (-e).toNat = 0 by omega, show (e + 1074).toNat = e.toNat + LP by omega, Nat.pow_add, ← Nat.mul_assoc, Nat.shiftLeft_eq, Nat.pow_zero, Nat.div_one]
    have : U = 2 ^ LP := by unfold U; rfl
    rw [this, Nat.mul_div_cancel _ (Nat.two_pow_pos _)]
  · obtain ⟨j, rfl⟩ : ∃ j : Nat, e = -(j : Int) := ⟨e.natAbs, by omega⟩
    rw [show (-(j : Int)).toNat = 0 by omega, show (-(-(j : Int))).toNat = j by omega, show (-(j : Int) + 1074).toNat = LP - j by omega, Nat.shiftLeft_zero, U_split (k := j) (by omega), Nat.mul_comm m, Nat.mul_div_mul_left _ _ (Nat.two_pow_pos _)]
theorem integral_eq {x : Nat} {s : Bool} {m : Nat} {e : Int} (h : double.read x = .number s m e) : (double.read x).integral .zero = .number s (m * 2 ^ (e + 1074).toNat / U) 0 := by
  rw [h, ← whole_part (read_place h), ← cut_zero s]
  rfl
theorem FV.integral {x : Nat} {s : Bool} {v : Nat} (h : FV x s v) : (double.read x).integral .zero = .number s (v / U) 0 := by
  obtain ⟨m, e, h1, _, rfl⟩ := h
  exact integral_eq h1
theorem toInt_eq {x : Nat} {s : Bool} {v : Nat} (h : FV x s v) (hv : v / U < 2 ^ 62) : floatToIntVal .f64 x .i64 = some (sv s (v / U)) := by
  have h1 : (FloatKind.f64.decode x).toInt .zero = some (sv s (v / U)) := by
    show (double.read x).toInt .zero = _
    unfold Datum.toInt
    rw [h.integral]
    show some (Ieee.signed s (v / U) 0) = _
    unfold Ieee.signed sv
    rw [Nat.shiftLeft_zero]
  unfold floatToIntVal
  rw [h1]
  have h2 : IntKind.i64.min ≤ sv s (v / U) ∧ sv s (v / U) ≤ IntKind.i64.max := by
    have a : IntKind.i64.min = -9223372036854775808 := by decide
    have b : IntKind.i64.max = 9223372036854775807 := by decide
    rw [a, b]
    generalize v / U = q at *
    unfold sv
    split <;> omega
  simp only [h2, and_self, if_true]
section
variable {P : Program} {f : FuncId} {fn : Func}
theorem run_trunc (hf : P.funcs[f]? = some fn) (hname : (fn.name == "runtime.NumGoroutine") = false) (hb : fn.body.isNone = true) (hn : Extern.findNext fn = none) (he : Extern.find fn = some (Extern.MathFloor.toIntegral "math.archTrunc" .zero))
    {x : Nat} {s : Bool} {v : Nat} (h : FV x s v) (w : World) : (callFunc f #[.float .f64 x]).run P w = .ok (.value (.float .f64 (W s (v / U) 0))) w := by
  rw [run_callFunc_extern hf hname hb hn he]
  have h1 := h.integral
  obtain ⟨m, e, h2, _, rfl⟩ := h
  have h3 : FloatKind.f64.decode x = .number s m e := h2
  rw [h2] at h1
  have e1 : ∃ g : Bool → Nat → Sem Value, Extern.MathFloor.toIntegral "math.archTrunc" .zero #[Value.float .f64 x] = (match FloatKind.f64.decode x with
    | .nan s t => g s t
    | d => (pure (Value.float .f64 (FloatKind.f64.encode (d.integral .zero))) : Sem Value)) := ⟨_, rfl⟩
  obtain ⟨g, e1⟩ := e1
  rw [e1, h3]
  show (Result.ok (Value.float .f64 (FloatKind.f64.encode ((Datum.number s m e).integral .zero))) w).andThen _ = _
  rw [h1]
  rfl
end
/-- Is the word a whole number up to M? Which? -/
def wOf (x M : Nat) : Bool := match double.read x with
  | .number s m e => decide ((s = false ∨ m * 2 ^ (e + 1074).toNat = 0) ∧ m * 2 ^ (e + 1074).toNat ≤ M * U ∧ m * 2 ^ (e + 1074).toNat % U = 0)
  | _ => false
def nOf (x : Nat) : Nat := match double.read x with
  | .number _ m e => m * 2 ^ (e + 1074).toNat / U
  | _ => 0
theorem wOf_FV {x : Nat} {s : Bool} {v M : Nat} (h : FV x s v) : wOf x M = decide ((s = false ∨ v = 0) ∧ v ≤ M * U ∧ v % U = 0) := by
  obtain ⟨m, e, h1, _, rfl⟩ := h
  unfold wOf
  rw [h1]
theorem nOf_FV {x : Nat} {s : Bool} {v : Nat} (h : FV x s v) : nOf x = v / U := by
  obtain ⟨m, e, h1, _, rfl⟩ := h
  unfold nOf
  rw [h1]
theorem wOf_true {x M : Nat} (h : wOf x M = true) : ∃ s n, FV x s (n * U) ∧ (s = false ∨ n = 0) ∧ n ≤ M ∧ nOf x = n := by
  unfold wOf at h
  split at h
  · rename_i s m e hr
    simp only [decide_eq_true_eq] at h
    obtain ⟨h1, h2, h3⟩ := h
    have hf := FV.of hr
    have hd := Nat.div_add_mod (m * 2 ^ (e + 1074).toNat) U
    rw [h3, Nat.add_zero, Nat.mul_comm] at hd
    refine ⟨s, m * 2 ^ (e + 1074).toNat / U, by rw [hd]; exact hf, ?_, Nat.le_of_mul_le_mul_right (by rw [hd]; exact h2) U_pos, nOf_FV hf⟩
    rcases h1 with h1 | h1
    · exact .inl h1
    · right; rw [h1, Nat.zero_div]
  · cases h
theorem wOf_fw {n M : Nat} (hn : n < 2 ^ 53) : wOf (fw n) M = decide (n ≤ M) := by
  rw [wOf_FV (fw_FV hn), Nat.mul_mod_left]
  simp [Nat.mul_le_mul_right_iff U_pos]
theorem nOf_fw {n : Nat} (hn : n < 2 ^ 53) : nOf (fw n) = n := by rw [nOf_FV (fw_FV hn), Nat.mul_div_cancel _ U_pos]
/-- What a word that is compared gives. -/
def leF (x y : Nat) : Bool := FloatKind.f64.format.order x y == some .lt || FloatKind.f64.format.order x y == some .eq
theorem leF_fw {a b : Nat} (ha : a < 2 ^ 53) (hb : b < 2 ^ 53) : leF (fw a) (fw b) = decide (a ≤ b) := by
  unfold leF
  rw [o_leq (fw_FV ha) (fw_FV hb)]
  simp only [sv, Bool.false_eq_true, if_false]
  have : ((a * U : Nat) : Int) ≤ ((b * U : Nat) : Int) ↔ a ≤ b := by rw [Int.ofNat_le, Nat.mul_le_mul_right_iff U_pos]
  simp only [this]
theorem zero_FV : FV 0 false 0 := word_zero false
theorem fw_zero : fw 0 = 0 := by unfold fw W Format.nearest; rw [if_pos rfl]; rfl
end Go.Proofs.Ytfbedlhigggggaa
