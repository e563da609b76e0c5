/- Contracts of package need: whole numbers as floats. -/
import Derived.Test.YtbioljbiohdflaaGreatDoorFloat2
import Derived.Test.YtbioljbiohdflaaGreatDoorWithin
namespace Go.Proofs.YtbioljbiohdflaaGreatDoor
open Go.ChangeShapes Go.WideShapes Go.ChangeAt Go.RowKit
open Ieee (Datum)
set_option maxRecDepth 100000

theorem fw1000 : fw 1000 = 4652007308841189376 := by decide +kernel
theorem fw100000 : fw 100000 = 4681608360884174848 := by decide +kernel
set_option maxHeartbeats 400000 in
theorem Trunc_any {x : Nat} {s : Bool} {v : Nat} (h : FV x s v) (w : World) : Calls Tryz.prog 154 #[.float .f64 x] w fun e w' => e = .returned (.float .f64 (W s (v / U) 0)) ∧ w = w' := by
  have hd := run_trunc (P := Tryz.prog) (f := 211) (fn := Tryz.f211) Tryz.func211 (by kernel_rfl) (by kernel_rfl) (by kernel_rfl) (by kernel_rfl) h w
  go_enter Tryz.func154, Tryz.ntmps154
  go_wp2
  go_ret
  exact ⟨rfl, rfl⟩
theorem order_nan {x y : Nat} {s : Bool} {t : Nat} (h : Ieee.double.read x = .nan s t) : FloatKind.f64.format.order x y = none := by
  show (Ieee.double.read x).order (Ieee.double.read y) = none
  rw [h]; rfl
theorem order_inf {x y : Nat} {s t : Bool} {v : Nat} (h : Ieee.double.read x = .infinity s) (hy : FV y t v) : FloatKind.f64.format.order x y = some (if s then .lt else .gt) := by
  obtain ⟨m, e, h2, _, _⟩ := hy
  show (Ieee.double.read x).order (Ieee.double.read y) = _
  rw [h, h2]; rfl
set_option maxHeartbeats 800000 in
theorem integer_any (x M : Nat) (w : World) (hM : M < 2 ^ 53) : Calls Tryz.prog 95 #[.float .f64 x, .float .f64 (fw M)] w fun e w' => e = .returned (.bool (wOf x M)) ∧ w = w' := by
  have hm := fw_FV hM
  cases hr : Ieee.double.read x with
  | nan s t =>
    have h1 : (FloatKind.f64.format.order x 0 == some .gt || FloatKind.f64.format.order x 0 == some .eq) = false := by rw [order_nan hr]; rfl
    have hw : wOf x M = false := by unfold wOf; rw [hr]
    rw [hw]
    go_enter Tryz.func95, Tryz.ntmps95
    go_wp2
    go_ret
    exact ⟨rfl, rfl⟩
  | infinity s =>
    have hw : wOf x M = false := by unfold wOf; rw [hr]
    rw [hw]
    cases s with
    | true =>
      have h1 : (FloatKind.f64.format.order x 0 == some .gt || FloatKind.f64.format.order x 0 == some .eq) = false := by rw [order_inf hr zero_FV]; rfl
      go_enter Tryz.func95, Tryz.ntmps95
      go_wp2
      go_ret
      exact ⟨rfl, rfl⟩
    | false =>
      have h1 : (FloatKind.f64.format.order x 0 == some .gt || FloatKind.f64.format.order x 0 == some .eq) = true := by rw [order_inf hr zero_FV]; rfl
      have h2 : (FloatKind.f64.format.order x (fw M) == some .lt || FloatKind.f64.format.order x (fw M) == some .eq) = false := by rw [order_inf hr hm]; rfl
      go_enter Tryz.func95, Tryz.ntmps95
      go_wp2
      go_ret
      exact ⟨rfl, rfl⟩
  | number s m e =>
    have hf := FV.of hr
    generalize m * 2 ^ (e + 1074).toNat = v at hf
    have h1 := o_geq hf zero_FV
    have h2 := o_leq hf hm
    rw [wOf_FV hf]
    have hU := U_pos
    by_cases c1 : s = false ∨ v = 0
    · have c1' : sv false 0 ≤ sv s v := by rcases c1 with rfl | rfl <;> simp [sv]
      rw [decide_eq_true c1'] at h1
      by_cases c2 : v ≤ M * U
      · have c2' : sv s v ≤ sv false (M * U) := by
          rcases c1 with rfl | rfl
          · simp only [sv, Bool.false_eq_true, if_false]; omega
          · have : sv s 0 = 0 := by cases s <;> rfl
            rw [this]; simp only [sv, Bool.false_eq_true, if_false]; omega
        rw [decide_eq_true c2'] at h2
        have hq : v / U < 2 ^ 53 := by
          have : v / U ≤ M := by
            have := Nat.div_le_div_right (c := U) c2
            rwa [Nat.mul_div_cancel _ hU] at this
          omega
        have hW := W_FV s hq (show 0 ≤ 1000 by omega)
        rw [show (2 : Nat) ^ (LP - 0) = U by unfold U; rw [Nat.sub_zero]] at hW
        have h3 := o_eql hf hW
        have h4 : decide (sv s v = sv s (v / U * U)) = decide ((s = false ∨ v = 0) ∧ v ≤ M * U ∧ v % U = 0) := by
          have hd := Nat.div_add_mod v U
          rw [Nat.mul_comm] at hd
          rw [decide_eq_decide]
          constructor
          · intro h
            refine ⟨c1, c2, ?_⟩
            have : v = v / U * U := by
              unfold sv at h
              generalize v / U * U = q at *
              cases s <;> simp at h <;> omega
            omega
          · rintro ⟨_, _, h⟩
            have : v / U * U = v := by omega
            rw [this]
        rw [h4] at h3
        go_enter Tryz.func95, Tryz.ntmps95
        go_wp2_with (go_at_call 154; refine (Trunc_any hf _).mono ?_; rintro e w' ⟨rfl, rfl⟩)
        go_ret
        exact ⟨ret_bool (by simp [c1, c2]), rfl⟩
      · have c2' : ¬ sv s v ≤ sv false (M * U) := by
          rcases c1 with rfl | rfl
          · simp only [sv, Bool.false_eq_true, if_false]; omega
          · omega
        rw [decide_eq_false c2'] at h2
        rw [decide_eq_false (fun h => c2 h.2.1)]
        go_enter Tryz.func95, Tryz.ntmps95
        go_wp2
        go_ret
        exact ⟨rfl, rfl⟩
    · have c1' : ¬ sv false 0 ≤ sv s v := by
        cases s
        · simp at c1
        · simp [sv] at c1 ⊢; omega
      rw [decide_eq_false c1'] at h1
      rw [decide_eq_false (fun h => c1 h.1)]
      go_enter Tryz.func95, Tryz.ntmps95
      go_wp2
      go_ret
      exact ⟨rfl, rfl⟩
def bigN (x y M : Nat) : Bool := wOf x M && wOf y M
set_option maxHeartbeats 400000 in
theorem whole_any (x y M : Nat) (w : World) (hM : M < 2 ^ 53) : Calls Tryz.prog 49 #[.complex .f64 x y, .float .f64 (fw M)] w fun e w' => e = .returned (.bool (bigN x y M)) ∧ w = w' := by
  unfold bigN
  cases h1 : wOf x M
  all_goals
    go_enter Tryz.func49, Tryz.ntmps49
    go_wp2_with (go_at_call 95; refine (integer_any _ _ _ hM).mono ?_; rintro e w' ⟨rfl, rfl⟩)
    go_ret
    exact ⟨rfl, rfl⟩
set_option maxHeartbeats 400000 in
theorem Room_any (x y : Nat) (w : World) : Calls Tryz.prog 27 #[.complex .f64 x y] w fun e w' => e = .returned (.bool (bigN x y 100000)) ∧ w = w' := by
  have hk := fun w => whole_any x y 100000 w (by omega)
  rw [fw100000] at hk
  go_enter Tryz.func27, Tryz.ntmps27
  go_wp2_with (go_at_call 49; refine (hk _).mono ?_; rintro e w' ⟨rfl, rfl⟩)
  go_ret
  exact ⟨rfl, rfl⟩
def rightN (x y : Nat) : Bool := bigN x y 1000 && !(nOf x == 0 && nOf y == 0)
theorem eq0 {x : Nat} (h : wOf x 1000 = true) : (FloatKind.f64.format.order x 0 == some .eq) = (nOf x == 0) := by
  obtain ⟨s, n, hf, hs, _, hn⟩ := wOf_true h
  rw [o_eql hf zero_FV, hn]
  have hU := U_pos
  rcases Nat.eq_zero_or_pos n with h0 | h0
  · subst h0
    rw [Nat.zero_mul]
    cases s <;> rfl
  · have := Nat.mul_pos h0 hU
    have h1 : (n == 0) = false := by simp; omega
    rw [h1, decide_eq_false]
    unfold sv
    split <;> simp <;> omega
set_option maxHeartbeats 400000 in
theorem Right_any (x y : Nat) (w : World) : Calls Tryz.prog 188 #[.complex .f64 x y] w fun e w' => e = .returned (.bool (rightN x y)) ∧ w = w' := by
  have hk := fun w => whole_any x y 1000 w (by omega)
  rw [fw1000] at hk
  unfold rightN
  cases h1 : bigN x y 1000
  · rw [h1] at hk
    go_enter Tryz.func188, Tryz.ntmps188
    go_wp2_with (go_at_call 49; refine (hk _).mono ?_; rintro e w' ⟨rfl, rfl⟩)
    go_ret
    exact ⟨rfl, rfl⟩
  · rw [h1] at hk
    unfold bigN at h1
    rw [Bool.and_eq_true] at h1
    have e1 := eq0 h1.1
    have e2 := eq0 h1.2
    have hb : (binOp .neq 24 (.complex .f64 x y) (.complex .f64 0 0)) = pure (.bool (!(nOf x == 0 && nOf y == 0))) := by
      simp [binOp, Op.complexOp, Op.Complex.cmp, Op.floatCmp, asBool, e1, e2]
    go_enter Tryz.func188, Tryz.ntmps188
    go_wp2_with (go_at_call 49; refine (hk _).mono ?_; rintro e w' ⟨rfl, rfl⟩)
    go_ret
    exact ⟨ret_bool (by simp), rfl⟩
def partN (x y : Nat) (n : Nat) : Nat := if bigN x y 100000 then nOf n else 0
set_option maxHeartbeats 400000 in
theorem Parts_any (x y : Nat) (w : World) : Calls Tryz.prog 260 #[.complex .f64 x y] w fun e w' => e = .returned (.tuple #[.int .i64 (partN x y x), .int .i64 (partN x y y)]) ∧ w = w' := by
  have hk := Room_any x y
  unfold partN
  cases h1 : bigN x y 100000
  · rw [h1] at hk
    go_enter Tryz.func260, Tryz.ntmps260
    go_wp2_with (go_at_call 27; refine (hk _).mono ?_; rintro e w' ⟨rfl, rfl⟩)
    go_ret2
    exact ⟨rfl, rfl⟩
  · rw [h1] at hk
    unfold bigN at h1
    rw [Bool.and_eq_true] at h1
    have conv : ∀ z, wOf z 100000 = true → floatToIntVal .f64 z .i64 = some (nOf z : Int) := by
      intro z hz
      obtain ⟨s, n, hf, hs, hn, hn2⟩ := wOf_true hz
      have hq : n * U / U = n := Nat.mul_div_cancel _ U_pos
      rw [toInt_eq hf (by rw [hq]; omega), hq, hn2]
      unfold sv
      rcases hs with rfl | rfl
      · rfl
      · cases s <;> rfl
    have c1 := fun w => run_convert_float_int (P := Tryz.prog) w 48 3 .f64 .i64 x _ (by kernel_rfl) (by kernel_rfl) (conv x h1.1)
    have c2 := fun w => run_convert_float_int (P := Tryz.prog) w 48 3 .f64 .i64 y _ (by kernel_rfl) (by kernel_rfl) (conv y h1.2)
    go_enter Tryz.func260, Tryz.ntmps260
    go_wp2_with (go_at_call 27; refine (hk _).mono ?_; rintro e w' ⟨rfl, rfl⟩)
    go_ret2
    exact ⟨rfl, rfl⟩
theorem part_any (n : Int) (w : World) : Calls Tryz.prog 268 #[.int .i64 n] w fun e w' => e = .returned (.bool (decide (0 ≤ n ∧ n ≤ 100000))) ∧ w = w' := by
  by_cases h : 0 ≤ n
  all_goals
    go_enter Tryz.func268, Tryz.ntmps268
    go_wp2
    go_ret
    exact ⟨ret_bool (by first | (simp [h]; done) | (rw [decide_eq_false (show ¬ (0 ≤ n) by omega)]; rfl)), rfl⟩
def ofW (a b n : Int) : Nat := if (0 ≤ a ∧ a ≤ 100000) ∧ 0 ≤ b ∧ b ≤ 100000 then fw n.toNat else 0
set_option maxHeartbeats 400000 in
theorem Of_any (a b : Int) (w : World) : Calls Tryz.prog 259 #[.int .i64 a, .int .i64 b] w fun e w' => e = .returned (.complex .f64 (ofW a b a) (ofW a b b)) ∧ w = w' := by
  unfold ofW
  by_cases h1 : 0 ≤ a ∧ a ≤ 100000
  · have k1 := decide_eq_true h1
    by_cases h2 : 0 ≤ b ∧ b ≤ 100000
    · have k2 := decide_eq_true h2
      have e1 := ofInt_fw (n := a) (by omega)
      have e2 := ofInt_fw (n := b) (by omega)
      rw [if_pos ⟨h1, h2⟩, if_pos ⟨h1, h2⟩, ← e1, ← e2]
      clear e1 e2
      go_enter Tryz.func259, Tryz.ntmps259
      go_wp2_with (go_at_call 268; refine (part_any _ _).mono ?_; rintro e w' ⟨rfl, rfl⟩)
      go_ret
      exact ⟨rfl, rfl⟩
    · have k2 := decide_eq_false h2
      rw [if_neg (fun h => h2 h.2), if_neg (fun h => h2 h.2)]
      go_enter Tryz.func259, Tryz.ntmps259
      go_wp2_with (go_at_call 268; refine (part_any _ _).mono ?_; rintro e w' ⟨rfl, rfl⟩)
      go_ret
      exact ⟨rfl, rfl⟩
  · have k1 := decide_eq_false h1
    rw [if_neg (fun h => h1 h.1), if_neg (fun h => h1 h.1)]
    go_enter Tryz.func259, Tryz.ntmps259
    go_wp2_with (go_at_call 268; refine (part_any _ _).mono ?_; rintro e w' ⟨rfl, rfl⟩)
    go_ret
    exact ⟨rfl, rfl⟩
set_option maxHeartbeats 400000 in
theorem Fits_any (a b c d : Nat) (w : World) : Calls Tryz.prog 241 #[.complex .f64 a b, .complex .f64 c d] w fun e w' => e = .returned (.bool (leF a c && leF b d)) ∧ w = w' := by
  cases h1 : leF a c
  all_goals
    unfold leF at h1
    go_enter Tryz.func241, Tryz.ntmps241
    go_wp2
    go_ret
    exact ⟨ret_bool (by unfold leF; simp), rfl⟩
end Go.Proofs.YtbioljbiohdflaaGreatDoor
