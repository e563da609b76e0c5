/- The plain answers of chapter 2, and any number made of small ones. -/
import Derived.Test.YtiijhlgeffnpmaaNEW
namespace Go.Proofs.Ytiijhlgeffnpmaa
open Go.ChangeShapes Go.WideShapes Go.ChangeAt Go.RowKit
open Ieee (Datum)
def tup2 (n : Nat) (b : Bool) : Value := .tuple #[.int .i64 n, .bool b]
set_option maxHeartbeats 1000000 in
theorem rwhole_any (x : Nat) (w : World) : Calls Try.prog 20 #[.float .f64 x, .int .i64 100000] w fun e w' => e = .returned (.tuple #[.int .i64 (if wOf x 100000 then nOf x else 0 : Nat), .bool (wOf x 100000)]) ∧ w = w' := by
  have hm := fw_FV (n := 100000) (by omega)
  have hk : floatOfInt .f64 100000 = fw 100000 := ofInt_fw (by omega)
  cases hr : Ieee.double.read x with
  | nan s t =>
    have h1 : (FloatKind.f64.format.order x 0 == some .gt || FloatKind.f64.format.order x 0 == some .eq) = false := by rw [order_nan hr]; rfl
    have hw : wOf x 100000 = false := by unfold wOf; rw [hr]
    rw [hw]
    go_enter Try.func20, Try.ntmps20
    go_wp2
    go_ret2
    exact ⟨rfl, rfl⟩
  | infinity s =>
    have hw : wOf x 100000 = false := by unfold wOf; rw [hr]
    rw [hw]
    cases s with
    | true =>
      have h1 : (FloatKind.f64.format.order x 0 == some .gt || FloatKind.f64.format.order x 0 == some .eq) = false := by rw [order_inf hr zero_FV]; rfl
      go_enter Try.func20, Try.ntmps20
      go_wp2
      go_ret2
      exact ⟨rfl, rfl⟩
    | false =>
      have h1 : (FloatKind.f64.format.order x 0 == some .gt || FloatKind.f64.format.order x 0 == some .eq) = true := by rw [order_inf hr zero_FV]; rfl
      have h2 : (FloatKind.f64.format.order x (fw 100000) == some .lt || FloatKind.f64.format.order x (fw 100000) == some .eq) = false := by rw [order_inf hr hm]; rfl
      go_enter Try.func20, Try.ntmps20
      go_wp2
      go_ret2
      exact ⟨rfl, rfl⟩
  | number s m e =>
    have hf := FV.of hr
    generalize m * 2 ^ (e + 1074).toNat = v at hf
    have h1 := o_geq hf zero_FV
    have h2 := o_leq hf hm
    rw [nOf_FV hf, wOf_FV hf]
    have hU := U_pos
    by_cases c1 : s = false ∨ v = 0
    · have c1' : sv false 0 ≤ sv s v := by rcases c1 with rfl | rfl <;> simp [sv]
      rw [decide_eq_true c1'] at h1
      by_cases c2 : v ≤ 100000 * U
      · have c2' : sv s v ≤ sv false (100000 * U) := by
          rcases c1 with rfl | rfl
          · simp only [sv, Bool.false_eq_true, if_false]; omega
          · have : sv s 0 = 0 := by cases s <;> rfl
            rw [this]; simp only [sv, Bool.false_eq_true, if_false]; omega
        rw [decide_eq_true c2'] at h2
        have hq : v / U ≤ 100000 := by
          have := Nat.div_le_div_right (c := U) c2
          rwa [Nat.mul_div_cancel _ hU] at this
        have hn : sv s (v / U) = ((v / U : Nat) : Int) := by
          rcases c1 with rfl | rfl
          · rfl
          · rw [Nat.zero_div]; cases s <;> rfl
        have hc := toInt_eq hf (by omega)
        rw [hn] at hc
        have c3 := fun w => run_convert_float_int (P := Try.prog) w 23 3 .f64 .i64 x _ (by rfl) (by rfl) hc
        have hb : floatOfInt .f64 ((v / U : Nat) : Int) = fw (v / U) := by rw [ofInt_fw (Int.natCast_nonneg _)]; rfl
        have h3 := o_neq (fw_FV (n := v / U) (by omega)) hf
        have h4 : decide (sv false (v / U * U) = sv s v) = decide (v % U = 0) := by
          have hd := Nat.div_add_mod v U
          rw [Nat.mul_comm] at hd
          rw [decide_eq_decide]
          generalize v / U * U = q at *
          constructor
          · intro h
            have : q = v := by
              unfold sv at h
              rcases c1 with rfl | rfl
              · simp at h; omega
              · cases s <;> simp at h <;> omega
            omega
          · intro h
            have : q = v := by omega
            subst this
            rcases c1 with rfl | rfl
            · rfl
            · cases s <;> rfl
        rw [h4] at h3
        have h5 : decide ((s = false ∨ v = 0) ∧ v ≤ 100000 * U ∧ v % U = 0) = decide (v % U = 0) := by simp [c1, c2]
        rw [h5]
        generalize v / U = n at *
        clear h5 h4 hf
        by_cases h6 : v % U = 0
        · rw [decide_eq_true h6] at h3 ⊢
          go_enter Try.func20, Try.ntmps20
          go_wp2
          go_ret2
          exact ⟨rfl, rfl⟩
        · rw [decide_eq_false h6] at h3 ⊢
          go_enter Try.func20, Try.ntmps20
          go_wp2
          go_ret2
          exact ⟨rfl, rfl⟩
      · have c2' : ¬ sv s v ≤ sv false (100000 * U) := by
          rcases c1 with rfl | rfl
          · simp only [sv, Bool.false_eq_true, if_false]; omega
          · omega
        rw [decide_eq_false c2'] at h2
        rw [decide_eq_false (fun h => c2 h.2.1)]
        go_enter Try.func20, Try.ntmps20
        go_wp2
        go_ret2
        exact ⟨rfl, rfl⟩
    · have c1' : ¬ sv false 0 ≤ sv s v := by
        cases s
        · simp at c1
        · simp [sv] at c1 ⊢; omega
      rw [decide_eq_false c1'] at h1
      rw [decide_eq_false (fun h => c1 h.1)]
      go_enter Try.func20, Try.ntmps20
      go_wp2
      go_ret2
      exact ⟨rfl, rfl⟩
set_option maxHeartbeats 1000000 in
theorem rParts_any (x y : Nat) (w : World) : Calls Try.prog 15 #[.complex .f64 x y] w fun e w' => e = .returned (.tuple #[.int .i64 (partN x y x), .int .i64 (partN x y y), .bool (bigN x y 100000)]) ∧ w = w' := by
  unfold partN bigN
  cases h1 : wOf x 100000 <;> cases h2 : wOf y 100000
  all_goals
    go_enter Try.func15, Try.ntmps15
    go_wp2_with (go_at_call 20; refine (rwhole_any _ _).mono ?_; rintro e w' ⟨rfl, rfl⟩)
    go_ret3
    exact ⟨rfl, rfl⟩
theorem wOf_less (x : Nat) : wOf x 1000 = (wOf x 100000 && decide (nOf x ≤ 1000)) := by
  have hU := U_pos
  cases hr : Ieee.double.read x with
  | nan s t => unfold wOf; rw [hr]; rfl
  | infinity s => unfold wOf; rw [hr]; rfl
  | number s m e =>
    have hf := FV.of hr
    generalize m * 2 ^ (e + 1074).toNat = v at hf
    rw [nOf_FV hf, wOf_FV hf, wOf_FV hf, ← Bool.decide_and, decide_eq_decide]
    have hd := Nat.div_add_mod v U
    rw [Nat.mul_comm] at hd
    constructor
    · rintro ⟨h1, h2, h3⟩
      refine ⟨⟨h1, Nat.le_trans h2 (Nat.mul_le_mul_right _ (by omega)), h3⟩, ?_⟩
      have := Nat.div_le_div_right (c := U) h2
      rwa [Nat.mul_div_cancel _ hU] at this
    · rintro ⟨⟨h1, h2, h3⟩, h4⟩
      refine ⟨h1, ?_, h3⟩
      have h5 := Nat.mul_le_mul_right U h4
      omega
theorem rightN_parts (x y : Nat) : rightN x y = (bigN x y 100000 && (decide (nOf x ≤ 1000) && (decide (nOf y ≤ 1000) && decide ((0 : Int) < (nOf x : Int) + nOf y)))) := by
  unfold rightN bigN
  rw [wOf_less x, wOf_less y]
  have h : (!(nOf x == 0 && nOf y == 0)) = decide ((0 : Int) < (nOf x : Int) + nOf y) := by
    generalize nOf x = a
    generalize nOf y = b
    rw [Bool.eq_iff_iff]
    simp
    omega
  rw [h]
  cases wOf x 100000 <;> cases wOf y 100000 <;> simp [Bool.and_assoc]
set_option maxHeartbeats 1000000 in
theorem rNeed_any (x y : Nat) (w : World) : Calls Try.prog 16 #[.complex .f64 x y] w fun e w' => e = .returned (.bool (rightN x y)) ∧ w = w' := by
  rw [rightN_parts]
  cases h1 : bigN x y 100000
  · go_enter Try.func16, Try.ntmps16
    go_wp2_with (go_at_call 15; refine (rParts_any _ _ _).mono ?_; rintro e w' ⟨rfl, rfl⟩)
    go_ret
    exact ⟨rfl, rfl⟩
  · have e1 : partN x y x = nOf x := by unfold partN; rw [h1, if_pos rfl]
    have e2 : partN x y y = nOf y := by unfold partN; rw [h1, if_pos rfl]
    have u1 : nOf x ≤ 100000 := by unfold bigN at h1; rw [Bool.and_eq_true] at h1; obtain ⟨_, n, _, _, a, b⟩ := wOf_true h1.1; omega
    have u2 : nOf y ≤ 100000 := by unfold bigN at h1; rw [Bool.and_eq_true] at h1; obtain ⟨_, n, _, _, a, b⟩ := wOf_true h1.2; omega
    have hP := fun w => rParts_any x y w
    rw [h1, e1, e2] at hP
    generalize nOf x = a at *
    generalize nOf y = b at *
    by_cases f1 : (a : Int) ≤ 1000 <;> by_cases f2 : (b : Int) ≤ 1000
    all_goals
      go_enter Try.func16, Try.ntmps16
      go_wp2_with (go_at_call 15; refine (hP _).mono ?_; rintro e w' ⟨rfl, rfl⟩)
      go_ret
      exact ⟨ret_bool (by first | rfl | (simp; done) | (simp; rw [decide_eq_true (show a ≤ 1000 by omega), decide_eq_true (show b ≤ 1000 by omega)]; rfl) | (simp; omega)), rfl⟩
set_option maxHeartbeats 400000 in
theorem rFits_any (a b c d : Nat) (w : World) : Calls Try.prog 17 #[.complex .f64 a b, .complex .f64 c d] w fun e w' => e = .returned (.bool (leF a c && leF b d)) ∧ w = w' := by
  cases h1 : leF a c
  all_goals
    unfold leF at h1
    go_enter Try.func17, Try.ntmps17
    go_wp2
    go_ret
    exact ⟨ret_bool (by unfold leF; simp), rfl⟩
open Ieee in
theorem read_word (s : Bool) (r : Nat) (h : r < 2047 * 2 ^ 52) : ∃ m e, double.read (double.word s r) = .number s m e := by
  have hw : double.word s r = (if s then 2 ^ 63 else 0) + r := by
    unfold Format.word; rw [sign_eq]; cases s <;> simp
  unfold Format.read
  simp only [least_eq, binade_eq, inf_eq, sign_eq, hw]
  have e1 : ((if s then 2 ^ 63 else 0) + r) % 2 ^ 63 = r := by cases s <;> simp <;> omega
  have e2 : (((if s then 2 ^ 63 else 0) + r) / 2 ^ 63 % 2 == 1) = s := by
    cases s
    · have : r / 2 ^ 63 = 0 := by omega
      simp [this]
    · have : (2 ^ 63 + r) / 2 ^ 63 = 1 := by omega
      simp only [if_true, this]; decide
  rw [e1, e2]
  split
  · exact ⟨_, _, rfl⟩
  · exact ⟨_, _, rfl⟩
open Ieee in
theorem cut_le (s : Bool) (n d : Nat) (hd : d ≤ n.log2 + 2) : Toward.even.cut s n d ≤ n / 2 ^ d + 1 := by
  unfold Toward.cut
  simp only [Nat.min_eq_left hd, Nat.shiftLeft_eq, Nat.one_mul]
  generalize (decide (2 ^ d < 2 * (n % 2 ^ d)) || 2 ^ d == 2 * (n % 2 ^ d) && n / 2 ^ d % 2 == 1) = t
  cases t <;> simp
theorem rung_small {a K : Nat} (ha : a ≤ 1085) (hK : K ≤ 2 ^ 53) : min (a * 2 ^ 52 + K) (2047 * 2 ^ 52) < 2047 * 2 ^ 52 := by omega
open Ieee in
theorem nearest_fin (s : Bool) (T : Nat) (h : T < 2 ^ 64) : ∃ m e, double.read (double.nearest s T 0) = .number s m e := by
  rcases Nat.eq_zero_or_pos T with h0 | h0
  · subst h0
    exact read_word s 0 (by omega)
  · have hL : T.log2 ≤ 63 := by have := (Nat.log2_lt (n := T) (k := 64) (by omega)).2 h; omega
    have h1 : T < 2 ^ (T.log2 + 1) := Nat.lt_log2_self
    have hkept : Toward.even.cut s (T <<< ((0 : Int) - ((T.log2 : Int) - 52)).toNat) (((T.log2 : Int) - 52) - (0 : Int)).toNat ≤ 2 ^ 53 := by
      rcases Nat.le_total T.log2 52 with hc | hc
      · rw [show (((T.log2 : Int) - 52) - (0 : Int)).toNat = 0 by omega, show ((0 : Int) - ((T.log2 : Int) - 52)).toNat = 52 - T.log2 by omega, Nat.shiftLeft_eq]
        refine Nat.le_trans (cut_le s _ 0 (by omega)) ?_
        rw [Nat.pow_zero, Nat.div_one]
        have := (Nat.mul_lt_mul_right (Nat.two_pow_pos (52 - T.log2))).2 h1
        rw [← Nat.pow_add, show T.log2 + 1 + (52 - T.log2) = 53 by omega] at this
        exact this
      · rw [show (((T.log2 : Int) - 52) - (0 : Int)).toNat = T.log2 - 52 by omega, show ((0 : Int) - ((T.log2 : Int) - 52)).toNat = 0 by omega, Nat.shiftLeft_zero]
        refine Nat.le_trans (cut_le s _ _ (by omega)) ?_
        rw [show T.log2 + 1 = 53 + (T.log2 - 52) by omega, Nat.pow_add] at h1
        exact Nat.div_lt_of_lt_mul (by rw [Nat.mul_comm]; exact h1)
    have hl : max ((0 : Int) + (T.log2 : Int) - (double.fractionBits : Int)) double.leastPlace = (T.log2 : Int) - 52 := by
      rw [frac_eq, least_eq]
      show max ((0 : Int) + (T.log2 : Int) - 52) (-1074) = _
      omega
    rw [nearest_eq double s T 0 (by omega) ((T.log2 : Int) - 52) hl _ rfl, least_eq, binade_eq, inf_eq]
    refine read_word s _ ?_
    generalize Toward.even.cut s (T <<< ((0 : Int) - ((T.log2 : Int) - 52)).toNat) (((T.log2 : Int) - 52) - (0 : Int)).toNat = K at hkept
    exact rung_small (by omega) hkept
open Ieee in
theorem ofInt_fin (n : Int) (h : -9223372036854775808 ≤ n ∧ n ≤ 9223372036854775807) : ∃ s m e, double.read (floatOfInt .f64 n) = .number s m e := by
  obtain ⟨m, e, h1⟩ := nearest_fin (decide (n < 0)) n.natAbs (by omega)
  exact ⟨_, m, e, h1⟩
open Ieee in
theorem div8 (n : Int) (h : -9223372036854775808 ≤ n ∧ n ≤ 9223372036854775807) : ∃ r, floatBits .quo .f64 (floatOfInt .f64 n) 4620693217682128896 = some r := by
  obtain ⟨s, m, e, h1⟩ := ofInt_fin n h
  have h8 : double.read 4620693217682128896 = .number false 4503599627370496 (-49) := by decide +kernel
  change ∃ r, ((double.read (floatOfInt .f64 n)).quotient (double.fractionBits + 2) (double.read 4620693217682128896)).map double.write = some r
  rw [h1, h8]
  exact ⟨_, rfl⟩
open Ieee in
theorem mul0 (n : Int) (h : -9223372036854775808 ≤ n ∧ n ≤ 9223372036854775807) : ∃ r, floatBits .mul .f64 0 (floatOfInt .f64 n) = some r ∧ double.div 0 r = none := by
  obtain ⟨s, m, e, h1⟩ := ofInt_fin n h
  have h0 : double.read 0 = .number false 0 (-1074) := by decide +kernel
  have hz : ∀ t, double.read (double.word t 0) = .number t 0 (-1074) := by intro t; cases t <;> decide +kernel
  refine ⟨double.word (false ^^ s) 0, ?_, ?_⟩
  · show ((double.read 0).product (double.read (floatOfInt .f64 n))).map double.write = _
    rw [h1, h0]
    show some (double.nearest (false ^^ s) (0 * m) _) = _
    rw [Nat.zero_mul]
    rfl
  · show ((double.read 0).quotient (double.fractionBits + 2) (double.read _)).map double.write = _
    rw [h0, hz]
    rfl
theorem run_nan {P : Program} {t : TypeId} {x y : Nat} (h : Ieee.double.div x y = none) (w : World) : ∃ r, (binOp .quo t (.float .f64 x) (.float .f64 y)).run P w = .ok (.float .f64 r) w.drew := by
  have h1 : FloatKind.f64.format.div x y = none := h
  simp only [binOp, Op.floatArith, h1]
  simp
  exact ⟨_, rfl⟩
end Go.Proofs.Ytiijhlgeffnpmaa
