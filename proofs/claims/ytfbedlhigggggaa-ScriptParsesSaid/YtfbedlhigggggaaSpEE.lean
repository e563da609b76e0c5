/- The plain answers of names, needs, items, words, lines, steps alike; the plain Step of tick, fuse, crash. -/
import Derived.Test.YtfbedlhigggggaaSpBB
import Derived.Test.YtfbedlhigggggaaRefName
import Derived.Test.YtfbedlhigggggaaSpDD
import Derived.Test.YtfbedlhigggggaaSpCC
import Derived.Deep.RegionHeld3
namespace Go.Proofs.Ytfbedlhigggggaa
open Go.ChangeShapes Go.WideShapes Go.ChangeAt Go.RowKit
open Ieee (Datum)
set_option maxRecDepth 100000
def partN (x y : Nat) (n : Nat) : Nat := if bigN x y 100000 then nOf n else 0
def tup2 (n : Nat) (b : Bool) : Value := .tuple #[.int .i64 n, .bool b]
set_option maxHeartbeats 1000000 in
theorem rwhole_any (x : Nat) (w : World) : Calls Try.prog 63 #[.float .f64 x, .int .i64 100000] w fun e w' => e = .returned (.tuple #[.int .i64 (if wOf x 100000 then nOf x else 0 : Nat), .bool (wOf x 100000)]) ∧ w = w' := by
  have hm := fw_FV (n := 100000) (by omega)
  have hk : floatOfInt .f64 100000 = fw 100000 := ofInt_fw (by omega)
  cases hr : Ieee.double.read x with
  | nan s t =>
    have h1 : (FloatKind.f64.format.order x 0 == some .gt || FloatKind.f64.format.order x 0 == some .eq) = false := by rw [order_nan hr]; rfl
    have hw : wOf x 100000 = false := by unfold wOf; rw [hr]
    rw [hw]
    go_enter Try.func63, Try.ntmps63
    go_wp2
    go_ret2
    exact ⟨rfl, rfl⟩
  | infinity s =>
    have hw : wOf x 100000 = false := by unfold wOf; rw [hr]
    rw [hw]
    cases s with
    | true =>
      have h1 : (FloatKind.f64.format.order x 0 == some .gt || FloatKind.f64.format.order x 0 == some .eq) = false := by rw [order_inf hr zero_FV]; rfl
      go_enter Try.func63, Try.ntmps63
      go_wp2
      go_ret2
      exact ⟨rfl, rfl⟩
    | false =>
      have h1 : (FloatKind.f64.format.order x 0 == some .gt || FloatKind.f64.format.order x 0 == some .eq) = true := by rw [order_inf hr zero_FV]; rfl
      have h2 : (FloatKind.f64.format.order x (fw 100000) == some .lt || FloatKind.f64.format.order x (fw 100000) == some .eq) = false := by rw [order_inf hr hm]; rfl
      go_enter Try.func63, Try.ntmps63
      go_wp2
      go_ret2
      exact ⟨rfl, rfl⟩
  | number s m e =>
    have hf := FV.of hr
    generalize m * 2 ^ (e + 1074).toNat = v at hf
    have h1 := o_geq hf zero_FV
    have h2 := o_leq hf hm
    rw [nOf_FV hf, wOf_FV hf]
    have hU := U_pos
    by_cases c1 : s = false ∨ v = 0
    · have c1' : sv false 0 ≤ sv s v := by rcases c1 with rfl | rfl <;> simp [sv]
      rw [decide_eq_true c1'] at h1
      by_cases c2 : v ≤ 100000 * U
      · have c2' : sv s v ≤ sv false (100000 * U) := by
          rcases c1 with rfl | rfl
          · simp only [sv, Bool.false_eq_true, if_false]; omega
          · have : sv s 0 = 0 := by cases s <;> rfl
            rw [this]; simp only [sv, Bool.false_eq_true, if_false]; omega
        rw [decide_eq_true c2'] at h2
        have hq : v / U ≤ 100000 := by
          have := Nat.div_le_div_right (c := U) c2
          rwa [Nat.mul_div_cancel _ hU] at this
        have hn : sv s (v / U) = ((v / U : Nat) : Int) := by
          rcases c1 with rfl | rfl
          · rfl
          · rw [Nat.zero_div]; cases s <;> rfl
        have hc := toInt_eq hf (by omega)
        rw [hn] at hc
        have c3 := fun w => run_convert_float_int (P := Try.prog) w 64 3 .f64 .i64 x _ (by rfl) (by rfl) hc
        have hb : floatOfInt .f64 ((v / U : Nat) : Int) = fw (v / U) := by rw [ofInt_fw (Int.natCast_nonneg _)]; rfl
        have h3 := o_neq (fw_FV (n := v / U) (by omega)) hf
        have h4 : decide (sv false (v / U * U) = sv s v) = decide (v % U = 0) := by
          have hd := Nat.div_add_mod v U
          rw [Nat.mul_comm] at hd
          rw [decide_eq_decide]
          generalize v / U * U = q at *
          constructor
          · intro h
            have : q = v := by
              unfold sv at h
              rcases c1 with rfl | rfl
              · simp at h; omega
              · cases s <;> simp at h <;> omega
            omega
          · intro h
            have : q = v := by omega
            subst this
            rcases c1 with rfl | rfl
            · rfl
            · cases s <;> rfl
        rw [h4] at h3
        have h5 : decide ((s = false ∨ v = 0) ∧ v ≤ 100000 * U ∧ v % U = 0) = decide (v % U = 0) := by simp [c1, c2]
        rw [h5]
        generalize v / U = n at *
        clear h5 h4 hf
        by_cases h6 : v % U = 0
        · rw [decide_eq_true h6] at h3 ⊢
          go_enter Try.func63, Try.ntmps63
          go_wp2
          go_ret2
          exact ⟨rfl, rfl⟩
        · rw [decide_eq_false h6] at h3 ⊢
          go_enter Try.func63, Try.ntmps63
          go_wp2
          go_ret2
          exact ⟨rfl, rfl⟩
      · have c2' : ¬ sv s v ≤ sv false (100000 * U) := by
          rcases c1 with rfl | rfl
          · simp only [sv, Bool.false_eq_true, if_false]; omega
          · omega
        rw [decide_eq_false c2'] at h2
        rw [decide_eq_false (fun h => c2 h.2.1)]
        go_enter Try.func63, Try.ntmps63
        go_wp2
        go_ret2
        exact ⟨rfl, rfl⟩
    · have c1' : ¬ sv false 0 ≤ sv s v := by
        cases s
        · simp at c1
        · simp [sv] at c1 ⊢; omega
      rw [decide_eq_false c1'] at h1
      rw [decide_eq_false (fun h => c1 h.1)]
      go_enter Try.func63, Try.ntmps63
      go_wp2
      go_ret2
      exact ⟨rfl, rfl⟩
set_option maxHeartbeats 1000000 in
theorem rParts_any (x y : Nat) (w : World) : Calls Try.prog 59 #[.complex .f64 x y] w fun e w' => e = .returned (.tuple #[.int .i64 (partN x y x), .int .i64 (partN x y y), .bool (bigN x y 100000)]) ∧ w = w' := by
  unfold partN bigN
  cases h1 : wOf x 100000 <;> cases h2 : wOf y 100000
  all_goals
    go_enter Try.func59, Try.ntmps59
    go_wp2_with (go_at_call 63; refine (rwhole_any _ _).mono ?_; rintro e w' ⟨rfl, rfl⟩)
    go_ret3
    exact ⟨rfl, rfl⟩
theorem wOf_less (x : Nat) : wOf x 1000 = (wOf x 100000 && decide (nOf x ≤ 1000)) := by
  have hU := U_pos
  cases hr : Ieee.double.read x with
  | nan s t => unfold wOf; rw [hr]; rfl
  | infinity s => unfold wOf; rw [hr]; rfl
  | number s m e =>
    have hf := FV.of hr
    generalize m * 2 ^ (e + 1074).toNat = v at hf
    rw [nOf_FV hf, wOf_FV hf, wOf_FV hf, ← Bool.decide_and, decide_eq_decide]
    have hd := Nat.div_add_mod v U
    rw [Nat.mul_comm] at hd
    constructor
    · rintro ⟨h1, h2, h3⟩
      refine ⟨⟨h1, Nat.le_trans h2 (Nat.mul_le_mul_right _ (by omega)), h3⟩, ?_⟩
      have := Nat.div_le_div_right (c := U) h2
      rwa [Nat.mul_div_cancel _ hU] at this
    · rintro ⟨⟨h1, h2, h3⟩, h4⟩
      refine ⟨h1, ?_, h3⟩
      have h5 := Nat.mul_le_mul_right U h4
      omega
theorem rightN_parts (x y : Nat) : rightN x y = (bigN x y 100000 && (decide (nOf x ≤ 1000) && (decide (nOf y ≤ 1000) && decide ((0 : Int) < (nOf x : Int) + nOf y)))) := by
  unfold rightN bigN
  rw [wOf_less x, wOf_less y]
  have h : (!(nOf x == 0 && nOf y == 0)) = decide ((0 : Int) < (nOf x : Int) + nOf y) := by
    generalize nOf x = a
    generalize nOf y = b
    rw [Bool.eq_iff_iff]
    simp
    omega
  rw [h]
  cases wOf x 100000 <;> cases wOf y 100000 <;> simp [Bool.and_assoc]
set_option maxHeartbeats 1000000 in
theorem rNeed_any (x y : Nat) (w : World) : Calls Try.prog 49 #[.complex .f64 x y] w fun e w' => e = .returned (.bool (rightN x y)) ∧ w = w' := by
  rw [rightN_parts]
  cases h1 : bigN x y 100000
  · go_enter Try.func49, Try.ntmps49
    go_wp2_with (go_at_call 59; refine (rParts_any _ _ _).mono ?_; rintro e w' ⟨rfl, rfl⟩)
    go_ret
    exact ⟨rfl, rfl⟩
  · have e1 : partN x y x = nOf x := by unfold partN; rw [h1, if_pos rfl]
    have e2 : partN x y y = nOf y := by unfold partN; rw [h1, if_pos rfl]
    have u1 : nOf x ≤ 100000 := by unfold bigN at h1; rw [Bool.and_eq_true] at h1; obtain ⟨_, n, _, _, a, b⟩ := wOf_true h1.1; omega
    have u2 : nOf y ≤ 100000 := by unfold bigN at h1; rw [Bool.and_eq_true] at h1; obtain ⟨_, n, _, _, a, b⟩ := wOf_true h1.2; omega
    have hP := fun w => rParts_any x y w
    rw [h1, e1, e2] at hP
    generalize nOf x = a at *
    generalize nOf y = b at *
    by_cases f1 : (a : Int) ≤ 1000 <;> by_cases f2 : (b : Int) ≤ 1000
    all_goals
      go_enter Try.func49, Try.ntmps49
      go_wp2_with (go_at_call 59; refine (hP _).mono ?_; rintro e w' ⟨rfl, rfl⟩)
      go_ret
      exact ⟨ret_bool (by first | rfl | (simp; done) | (simp; rw [decide_eq_true (show a ≤ 1000 by omega), decide_eq_true (show b ≤ 1000 by omega)]; rfl) | (simp; omega)), rfl⟩
end Go.Proofs.Ytfbedlhigggggaa
namespace Go.Proofs.Ytfbedlhigggggaa.Sp
open Go Go.RowKit Go.Lib Go.Proofs.Ytfbedlhigggggaa Go.Proofs.Ytfbedlhigggggaa.Crw Go.Proofs.Ytfbedlhigggggaa.Vl Go.ChangeShapes Go.WideShapes Go.ChangeAt
set_option linter.unusedVariables false
set_option maxRecDepth 100000
set_option maxHeartbeats 4000000 in
theorem rFields_any (k : Nat) (w : World) (h1 : 1 ≤ k) (h2 : k ≤ 9) : Calls Try.prog 28 #[.int .i64 k] w fun e w' => e = .returned (.string (fldB k)) ∧ Below w.heap.size w w' := by
  rcases (by omega : k = 1 ∨ k = 2 ∨ k = 3 ∨ k = 4 ∨ k = 5 ∨ k = 6 ∨ k = 7 ∨ k = 8 ∨ k = 9) with rfl | rfl | rfl | rfl | rfl | rfl | rfl | rfl | rfl
  all_goals
    go_enter Try.func28, Try.ntmps28
    go_wp2
    go_ret
    exact ⟨rfl, (Below.refl _ _).alloc (Nat.le_refl _) _⟩
def hasB (l : List UInt8) (c : UInt8) : Bool := l.any (· == c)
set_option maxHeartbeats 1000000 in
theorem rhas_any (s : ByteArray) (c : UInt8) (w : World) (hs : s.size ≤ maxLen) :
    Calls Try.prog 37 #[.string s, .int .u8 c.toNat] w fun e w' => e = .returned (.bool (hasB s.data.toList c)) ∧ w' = w := by
  unfold maxLen at hs
  go_enter Try.func37, Try.ntmps37
  go_wp2
  go_loop [5] (fun i => ∃ k : Nat, k ≤ s.size ∧ i = .int .i64 k ∧ Hid (hasB s.data.toList c = hasB (s.data.toList.drop k) c)) (fun i => s.size - (intOf i).toNat)
  case atStart => exact ⟨0, by omega, rfl, Lib.hid rfl⟩
  case round =>
    obtain ⟨k, hk, rfl, HS⟩ := hrel
    by_cases hlt : k < s.size
    · have hb : (s[k].toNat : Int) ≤ 255 := by have := s[k].toNat_lt; omega
      have hc : (c.toNat : Int) ≤ 255 := by have := c.toNat_lt; omega
      have HD : Hid (hasB (s.data.toList.drop k) c = (s[k] == c || hasB (s.data.toList.drop (k + 1)) c)) := by
        show _ = _
        rw [drop_at s k hlt]; rfl
      by_cases he : (s[k].toNat : Int) = (c.toNat : Int)
      · have HE : Hid (s[k] = c) := UInt8.toNat_inj.1 (by omega)
        go_wp2
        go_ret
        exact ⟨ret_bool (by rw [HS.out, HD.out, HE.out]; simp), by first | rfl | trivial⟩
      · have HE : Hid ((s[k] == c) = false) := by
          show _ = _
          rw [beq_eq_false_iff_ne]
          intro e
          exact he (by rw [e])
        go_wp2
        go_round
        case rel => exact ⟨k + 1, by omega, by go_num, by show _ = _; rw [HS.out, HD.out, HE.out]; rfl⟩
        case measure => simp [intOf]; omega
    · have HD : Hid (hasB (s.data.toList.drop k) c = false) := by
        show _ = _
        rw [List.drop_of_length_le (by simp; omega)]; rfl
      go_wp2
      go_ret
      exact ⟨ret_bool (by rw [HS.out, HD.out]), by first | rfl | trivial⟩
def fieldB (n : Int) (b : Bool) (M : Int) : Bool := if b = true then decide (1 ≤ n ∧ n ≤ M) else decide (n = 0)
theorem rfield_any (n : Int) (b : Bool) (M : Int) (w : World) : Calls Try.prog 38 #[.int .i64 n, .bool b, .int .i64 M] w fun e w' => e = .returned (.bool (fieldB n b M)) ∧ w' = w := by
  cases b
  · by_cases h : n = 0
    · subst h
      go_enter Try.func38, Try.ntmps38
      go_wp2
      go_ret
      exact ⟨rfl, rfl⟩
    · have HF : Hid (fieldB n false M = false) := by show _ = _; unfold fieldB; simp [h]
      go_enter Try.func38, Try.ntmps38
      go_wp2
      go_ret
      exact ⟨ret_bool (by first | (rw [HF.out]; done) | (rw [HF.out]; simp [h])), rfl⟩
  · have HF : Hid (fieldB n true M = (decide (1 ≤ n) && decide (n ≤ M))) := by show _ = _; unfold fieldB; simp
    by_cases h : 1 ≤ n <;> by_cases h' : n ≤ M
    all_goals
      go_enter Try.func38, Try.ntmps38
      go_wp2
      go_ret
      exact ⟨ret_bool (by rw [HF.out]; simp [h, h']), rfl⟩
def textB (s : ByteArray) (b : Bool) : Bool := if b = true then rightB s.data.toList else decide (s.data.toList = [])
theorem rtext_any (s : ByteArray) (b : Bool) (w : World) (hs : s.size ≤ maxLen) : Calls Try.prog 36 #[.string s, .bool b] w fun e w' => e = .returned (.bool (textB s b)) ∧ w' = w := by
  cases b
  · by_cases h : s.toList = []
    · have HF : Hid (textB s false = true) := by show _ = _; unfold textB; rw [← ByteArray.toList_eq, h]; rfl
      go_enter Try.func36, Try.ntmps36
      go_wp2
      go_ret
      exact ⟨ret_bool (by first | (rw [HF.out]; done) | (rw [HF.out]; simp [h])), rfl⟩
    · have HF : Hid (textB s false = false) := by show _ = _; unfold textB; rw [← ByteArray.toList_eq]; simp [h]
      go_enter Try.func36, Try.ntmps36
      go_wp2
      go_ret
      exact ⟨ret_bool (by first | (rw [HF.out]; done) | (rw [HF.out]; simp [h])), rfl⟩
  · have hR := fun wa => rRight_any s wa hs
    have HF : Hid (textB s true = rightB s.data.toList) := rfl
    generalize rightB s.data.toList = r at hR HF
    go_enter Try.func36, Try.ntmps36
    cases r
    all_goals
      go_wp2_with (go_at_call 48; refine (hR _).mono ?_; rintro e w' ⟨rfl, rfl⟩)
      go_ret
      exact ⟨ret_bool HF.out.symm, rfl⟩
set_option maxHeartbeats 4000000 in
theorem lNumber_any (s : ByteArray) (w : World) (hs : s.size ≤ maxLen) :
    Calls Try.prog 9 #[.string s] w fun e w' => e = .returned (.tuple #[.int .i64 (numS s.data.toList).1, .bool (numS s.data.toList).2]) ∧ w = w' := by
  unfold maxLen at hs
  have hlen : s.data.toList.length = s.size := by simp
  by_cases h1 : s.size < 1
  · rw [numS_bad (.inl (by omega))]
    go_enter Try.func9, Try.ntmps9
    go_wp2
    go_ret2
    exact ⟨rfl, rfl⟩
  by_cases h2 : 9 < s.size
  · rw [numS_bad (.inr (.inl (by omega)))]
    go_enter Try.func9, Try.ntmps9
    go_wp2
    go_ret2
    exact ⟨rfl, rfl⟩
  have h0 : 0 < s.size := by omega
  have hhd : s.data.toList.head? = some s[0] := by
    rw [List.head?_eq_getElem?, List.getElem?_eq_getElem (by simpa using h0)]
    rfl
  have h255 : (s[0].toNat : Int) ≤ 255 := by have := s[0].toNat_lt; omega
  by_cases h3 : (s[0].toNat : Int) = 48 ∧ 1 < s.size
  · obtain ⟨h3, h4⟩ := h3
    have he : s[0] = 48 := UInt8.toNat_inj.1 (by have e : (48 : UInt8).toNat = 48 := rfl; omega)
    rw [numS_bad (.inr (.inr (.inl ⟨by rw [hhd, he], by omega⟩)))]
    clear hhd he
    go_enter Try.func9, Try.ntmps9
    go_wp2
    go_ret2
    exact ⟨rfl, rfl⟩
  · have hS : Hid (numS s.data.toList = match numA s.data.toList 0 with
      | some v => (v, true)
      | none => (0, false)) := by
      show _ = _
      unfold numS
      rw [if_neg]
      · cases numA s.data.toList 0 <;> rfl
      rintro (h | h | ⟨h, h'⟩)
      · omega
      · omega
      · rw [hhd] at h
        injection h with h
        exact h3 ⟨by rw [h]; rfl, by omega⟩
    clear hhd
    have h5 : ¬ (s[0].toNat : Int) = 48 ∨ ((s[0].toNat : Int) = 48 ∧ ¬ 1 < s.size) := by omega
    clear h3
    rcases h5 with h5 | ⟨h5, h6⟩
    all_goals
      go_enter Try.func9, Try.ntmps9
      go_wp2
      go_loop [4, 5] (fun a i => ∃ (k : Nat) (v : Int), k ≤ s.size ∧ i = .int .i64 k ∧ a = .int .i64 v ∧ 0 ≤ v ∧ v + 1 ≤ p10 k ∧ Hid (numA s.data.toList 0 = numA (s.data.toList.drop k) v)) (fun a i => s.size - (intOf i).toNat)
      case atStart => exact ⟨0, 0, by omega, rfl, rfl, by omega, by decide, Lib.hid (by rw [List.drop_zero])⟩
      case round =>
        obtain ⟨k, v, hk, rfl, rfl, hv0, hv1, hN⟩ := hrel
        have hp := p10_le k (by omega)
        by_cases hlt : k < s.size
        · have hb : (s[k].toNat : Int) ≤ 255 := by have := s[k].toNat_lt; omega
          have hb0 : (0 : Int) ≤ (s[k].toNat : Int) := by omega
          have Hs := Lib.hid (numA_drop s k v hlt)
          have hp2 := p10_le (k + 1) (by omega)
          have hp3 : p10 (k + 1) = 10 * p10 k := rfl
          by_cases hd : 48 ≤ (s[k].toNat : Int) ∧ (s[k].toNat : Int) ≤ 57
          · obtain ⟨hd1, hd2⟩ := hd
            have HD : Hid (digB s[k] = true) := by show _ = _; unfold digB; simp; omega
            go_wp2
            go_round
            case rel =>
              refine ⟨k + 1, 10 * v + ((s[k].toNat : Int) - 48), by omega, by go_num, by go_num, by omega, by omega, ?_⟩
              show _ = _
              rw [hN.out, Hs.out, if_pos HD.out]
            case measure => simp [intOf]; omega
          · have HD : Hid (digB s[k] = false) := by
              show _ = _
              have : ¬ digB s[k] = true := by unfold digB; simp; omega
              simpa using this
            have HF : Hid (numS s.data.toList = (0, false)) := by
              show _ = _
              rw [hS.out, hN.out, Hs.out, HD.out]
              rfl
            have hd' : (s[k].toNat : Int) < 48 ∨ (¬ (s[k].toNat : Int) < 48 ∧ 57 < (s[k].toNat : Int)) := by omega
            rcases hd' with hd' | ⟨hd', hd2⟩
            all_goals
              go_wp2
              go_ret2
              rw [HF.out]
              exact ⟨rfl, rfl⟩
        · have HF : Hid (numS s.data.toList = (v, true)) := by
            show _ = _
            have hk' : s.data.toList.drop k = [] := List.drop_of_length_le (by simp; omega)
            rw [hS.out, hN.out, hk']
            rfl
          go_wp2
          go_ret2
          rw [HF.out]
          exact ⟨rfl, rfl⟩
def kcs : List Value := [.string (kwB 0), .string (kwB 1), .string (kwB 2), .string (kwB 3), .string (kwB 4), .string (kwB 5), .string (kwB 6), .string (kwB 7), .string (kwB 8), .string (kwB 9)]
theorem kcs_at (k : Nat) (h : k < 10) : kcs[k]? = some (.string (kwB k)) := by
  rcases (by omega : k = 0 ∨ k = 1 ∨ k = 2 ∨ k = 3 ∨ k = 4 ∨ k = 5 ∨ k = 6 ∨ k = 7 ∨ k = 8 ∨ k = 9) with rfl | rfl | rfl | rfl | rfl | rfl | rfl | rfl | rfl | rfl <;> rfl
theorem kinds_any (w : World) : Calls Try.prog 27 #[] w fun e w' => ∃ A, e = .returned (.slice (some ⟨A, 0, none⟩) 10 10) ∧ Below w.heap.size w w' ∧ A < w'.heap.size ∧ w.heap.size ≤ A ∧ ∀ k, k < 10 → w'.cell? ⟨A, k, none⟩ = some (.string (kwB k)) := by
  go_enter Try.func27, Try.ntmps27
  go_wp2
  go_ret
  refine ⟨_, rfl, (Below.refl _ _).alloc (Nat.le_refl _) _, by simp, by simp, fun k hk => ?_⟩
  refine ((Blk.new w 9 kcs.toArray).cell k).trans ?_
  simpa using kcs_at k hk
end Go.Proofs.Ytfbedlhigggggaa.Sp
namespace Go.Proofs.Ytfbedlhigggggaa.Sp
open Go Go.RowKit Go.Lib Go.Proofs.Ytfbedlhigggggaa Go.Proofs.Ytfbedlhigggggaa.Crw Go.Proofs.Ytfbedlhigggggaa.Vl Go.ChangeShapes Go.WideShapes Go.ChangeAt
set_option linter.unusedVariables false
set_option maxRecDepth 100000
attribute [local go_sem] run_store_complex
def fwI (i : Itm) : Nat × Nat := (fw i.a.toNat, fw i.b.toNat)
def iBd (i : Itm) : Prop := 0 ≤ i.a ∧ i.a ≤ 1000000000 ∧ 0 ≤ i.b ∧ i.b ≤ 1000000000
theorem rgt_fw (i : Itm) (h : iBd i) : rightN (fwI i).1 (fwI i).2 = rgt i := by
  unfold iBd at h
  unfold fwI rgt
  rw [rightN_fw _ _ (by omega) (by omega), Bool.eq_iff_iff]
  simp
  omega
theorem own_reads {w : World} {B : Nat} {e : TypeId} {v : Value} {xs : List ByteArray} (h : w.ownsRow B e 1 v xs.length (xs.map Value.string)) : ∃ A c, v = .slice A xs.length c ∧ Reads w w.heap.size 1 A xs.length (xs.map Value.string) := by
  rcases h.2 with ⟨rfl, h0⟩ | ⟨g, cap, cur, rfl, h2, h3, h4, h5, h6, h7⟩
  · rw [List.eq_nil_of_length_eq_zero h0]
    exact ⟨none, 0, rfl, rfl, fun hne => absurd hne (by simp)⟩
  · have hb : Blk w g e cur := h3
    refine ⟨_, cap, rfl, by simp, fun _ => ⟨_, rfl, hb.lt, fun j u hu => ?_⟩⟩
    have e1 : ((⟨g, 0, none⟩ : Addr).add j) = ⟨g, j, none⟩ := by
      unfold Addr.add; split <;> simp_all
    have hj : j < xs.length := by have := (List.getElem?_eq_some_iff.1 hu).1; simpa using this
    rw [e1, hb.cell]
    rw [← h7, List.getElem?_take, if_pos (by omega)] at hu
    simpa using hu
theorem neq00 : (binOp .neq 61 (.complex .f64 0 0) (.complex .f64 0 0)) = pure (.bool false) := by
  have e1 : (FloatKind.f64.format.order 0 0 == some .eq) = true := by decide +kernel
  simp [binOp, Op.complexOp, Op.Complex.cmp, Op.floatCmp, asBool, e1]
set_option maxHeartbeats 8000000 in
theorem rItems1 (v : Value) (l : List Itm) (w : World) (hi : Its fwI w v l) (hl : l.length ≤ 1001) (hq : ∀ i ∈ l, i.t.size ≤ 1000) (hbd : ∀ i ∈ l, iBd i) :
    Calls Try.prog 39 #[.int .i64 1, v] w fun e w' => e = .returned (.bool (itOk 1 l)) ∧ Below w.heap.size w w' := by
  obtain ⟨A, c, rfl, hi⟩ := hi
  obtain ⟨n, hn⟩ : ∃ n, n = l.length := ⟨_, rfl⟩
  rw [← hn] at hl ⊢
  have HN := Lib.hid hn
  have HC := Lib.hid hi
  have HQ := Lib.hid hq
  have HBD := Lib.hid hbd
  clear hn hi hq hbd
  obtain ⟨ii, hii, hi0, hi1, hi2⟩ := info_parts str_infoF
  have hmx : 1001 ≤ maxLen := by decide
  go_enter Try.func39, Try.ntmps39
  go_wp2_with fail
  go_loopw [5, 10] (fun nv i wr => Hid (∃ (j : Nat), j ≤ n ∧ i = .int .i64 j ∧ wr.ownsRow w.heap.size 9 1 nv j (((l.take j).map (·.t)).map Value.string) ∧ Below w.heap.size w wr ∧ (l.take j).all rgt = true ∧ ∃ w7, w7 = wr)) (fun _ i _ => n - (intOf i).toNat)
  case atStart => exact Lib.hid ⟨0, by omega, rfl, World.ownsRow_nil _ _ _ _, Below.refl _ _, rfl, _, rfl⟩
  case round =>
    obtain ⟨j, hj, rfl, ho, hbe, hall, w7, hw7⟩ := hrel.out
    subst hw7
    clear hrel
    obtain ⟨A4, c4, rfl, -, -⟩ := own_slice ho
    have HO := Lib.hid ho
    have HBE := Lib.hid hbe
    have HAL := Lib.hid hall
    clear hall
    clear ho hbe
    by_cases hlt : (j : Int) < (n : Int)
    · obtain ⟨it, hit⟩ : ∃ i, l[j]? = some i := ⟨l[j]'(by have := HN.out; omega), List.getElem?_eq_getElem _⟩
      obtain ⟨g, rfl, hg, hc⟩ := HC.out (by intro e; subst e; have := HN.out; simp at this; omega)
      obtain ⟨c0, c1⟩ := hc j it hit
      have d0 := (HBE.out.cell (p := ⟨g, j * 2, none⟩) hg).trans c0
      have d1 := (HBE.out.cell (p := ⟨g, j * 2 + 1, none⟩) hg).trans c1
      have HIT := Lib.hid hit
      have hNR := fun wa => rNeed_any (fwI it).1 (fwI it).2 wa
      rw [rgt_fw it (HBD.out it (List.mem_of_getElem? hit))] at hNR
      clear c0 c1 hit hc hg
      go_upto_region 5 with fail
      obtain ⟨gI, hgI⟩ : ∃ g, g = w7.heap.size := ⟨_, rfl⟩
      obtain ⟨w8, hw8⟩ : ∃ W, W = w7.alloc (.cells #[.string it.t, .complex .f64 (fwI it).1 (fwI it).2] 63) := ⟨_, rfl⟩
      rw [← hw8, ← hgI]
      have hbe8 : Below w7.heap.size w7 w8 := by rw [hw8]; exact (Below.refl _ _).alloc (Nat.le_refl _) _
      have hk8 : Blk w8 gI 63 #[.string it.t, .complex .f64 (fwI it).1 (fwI it).2] := by rw [hw8, hgI]; exact Blk.new _ _ _
      have ho8 : w8.ownsRow w.heap.size 9 1 (.slice A4 j c4) j (((l.take j).map (·.t)).map Value.string) := by rw [hw8]; exact HO.out.alloc _
      have HO8 := Lib.hid ho8
      have HBE8 := Lib.hid (HBE.out.trans (hbe8.mono HBE.out.size))
      have HK8 := Lib.hid hk8
      have e0 : w8.cell? ⟨gI, 0, none⟩ = some (.string it.t) := hk8.cell 0
      have HGI := Lib.hid (show ∀ k, (Value.slice A4 j c4).ownBlock = some k → gI ≠ k from fun k hk e => by have := (HO.out.lt k hk).2; omega)
      clear hw8 hbe8 hk8 ho8 hgI d0 d1
      go_upto_region 6 with (at_builtin; refine wpList_append_own _ rfl _ _ 36 rfl w.heap.size 9 ii (.string ⟨#[]⟩) 1 16 Try.underlying36 hii hi0 hi1 hi2 rfl (by decide) _ _ _ rfl (HO8.out.alloc _) ⟨_, 0, none⟩ 1 1 [.string it.t] rfl rfl (cell_one_new _ _ _) (one_cell_str _) (by simp only [maxLen]; omega) (by omega) (by have := HBE8.out.size; simp; omega) ?_; intro v1 w1 hown1 hg1 _hne; have HOWN1 := Lib.hid hown1; have HBE1 := Lib.hid (push_below HBE8.out HBE8.out.size HO8.out _ hg1); have HG1 := Lib.hid hg1; clear hown1 hg1 _hne)
      have hk1 : Blk w1 gI 63 #[.string it.t, .complex .f64 (fwI it).1 (fwI it).2] := by
        have h1 := HK8.out.alloc (.cells #[.string it.t] 9)
        exact (HG1.out.block gI h1.lt (fun e => HGI.out gI e.symm rfl)).trans h1
      have e1 : w1.cell? ⟨gI, 1, none⟩ = some (.complex .f64 (fwI it).1 (fwI it).2) := hk1.cell 1
      clear e0 hk1
      cases hr : rgt it with
      | false =>
        have HR := Lib.hid hr
        rw [hr] at hNR
        clear hr
        go_wp2_with (go_at_call 49; refine (hNR _).mono ?_; rintro e w' ⟨rfl, rfl⟩)
        go_ret
        rw [itOk_bad (by decide) (all_no HIT.out HR.out)]
        exact ⟨rfl, HBE1.out⟩
      | true =>
        have HR := Lib.hid hr
        rw [hr] at hNR
        clear hr
        go_wp2_with (go_at_call 49; refine (hNR _).mono ?_; rintro e w' ⟨rfl, rfl⟩)
        go_roundw
        case rel => exact Lib.hid ⟨j + 1, by omega, by go_num, by rw [List.take_add_one, HIT.out]; simpa using HOWN1.out, HBE1.out, by rw [all_take HIT.out, HAL.out, HR.out]; rfl, _, rfl⟩
        case measure => simp [intOf]; omega
    · have e : j = n := by omega
      subst e
      have ho := HO.out
      rw [List.take_of_length_le (by have := HN.out; omega)] at ho
      have hn := HN.out
      obtain ⟨A5, c5, e5, hR⟩ := own_reads (xs := l.map (·.t)) (by rw [List.length_map, ← hn]; exact ho)
      injection e5 with e5 e6 e7
      subst e5 e7
      rw [List.length_map, ← hn] at hR
      have hA := rAll_any A4 j c4 (l.map (·.t)) w7 hR (by omega) (fun s hs => by
        obtain ⟨i, hi, rfl⟩ := List.mem_map.1 hs
        have := HQ.out i hi
        unfold maxLen; omega)
      clear ho e6 hR
      have hall := HAL.out
      rw [List.take_of_length_le (by have := HN.out; omega)] at hall
      by_cases h1 : 1 ≤ j
      · by_cases h4 : j ≤ 4
        · have HOK := Lib.hid (itOk_run (k := 1) (by decide) (by omega) (by omega) hall)
          clear hall hn
          go_wp2_with (go_at_call 50; refine hA.mono ?_; rintro e w8 ⟨rfl, hb8⟩; have HB8 := Lib.hid (HBE.out.trans (hb8.mono HBE.out.size)); clear hb8)
          go_ret
          rw [HOK.out]
          exact ⟨rfl, HB8.out⟩
        · have HOK := Lib.hid (itOk_big 1 l (by omega))
          clear hall hn
          go_wp2_with fail
          go_ret
          rw [HOK.out]
          exact ⟨rfl, HBE.out⟩
      · have hl0 : l = [] := List.eq_nil_of_length_eq_zero (by omega)
        have HOK := Lib.hid (show itOk 1 l = false by rw [hl0]; exact itOk_none 1 (by decide))
        clear hall hn hl0
        go_wp2_with fail
        go_ret
        rw [HOK.out]
        exact ⟨rfl, HBE.out⟩
set_option maxHeartbeats 8000000 in
theorem rItems5 (v : Value) (l : List Itm) (w : World) (hi : Its (fun _ => (0, 0)) w v l) (hl : l.length ≤ 1001) (hq : ∀ i ∈ l, i.t.size ≤ 1000) :
    Calls Try.prog 39 #[.int .i64 5, v] w fun e w' => e = .returned (.bool (itOk 5 l)) ∧ Below w.heap.size w w' := by
  obtain ⟨A, c, rfl, hi⟩ := hi
  obtain ⟨n, hn⟩ : ∃ n, n = l.length := ⟨_, rfl⟩
  rw [← hn] at hl ⊢
  have HN := Lib.hid hn
  have HC := Lib.hid hi
  have HQ := Lib.hid hq
  clear hn hi hq
  obtain ⟨ii, hii, hi0, hi1, hi2⟩ := info_parts str_infoF
  have hmx : 1001 ≤ maxLen := by decide
  have hneq := neq00
  go_enter Try.func39, Try.ntmps39
  go_wp2_with fail
  go_loopw [5, 10] (fun nv i wr => Hid (∃ (j : Nat), j ≤ n ∧ i = .int .i64 j ∧ wr.ownsRow w.heap.size 9 1 nv j (((l.take j).map (·.t)).map Value.string) ∧ Below w.heap.size w wr ∧ ∃ w7, w7 = wr)) (fun _ i _ => n - (intOf i).toNat)
  case atStart => exact Lib.hid ⟨0, by omega, rfl, World.ownsRow_nil _ _ _ _, Below.refl _ _, _, rfl⟩
  case round =>
    obtain ⟨j, hj, rfl, ho, hbe, w7, hw7⟩ := hrel.out
    subst hw7
    clear hrel
    obtain ⟨A4, c4, rfl, -, -⟩ := own_slice ho
    have HO := Lib.hid ho
    have HBE := Lib.hid hbe
    clear ho hbe
    by_cases hlt : (j : Int) < (n : Int)
    · obtain ⟨it, hit⟩ : ∃ i, l[j]? = some i := ⟨l[j]'(by have := HN.out; omega), List.getElem?_eq_getElem _⟩
      obtain ⟨g, rfl, hg, hc⟩ := HC.out (by intro e; subst e; have := HN.out; simp at this; omega)
      obtain ⟨c0, c1⟩ := hc j it hit
      have d0 := (HBE.out.cell (p := ⟨g, j * 2, none⟩) hg).trans c0
      have d1 := (HBE.out.cell (p := ⟨g, j * 2 + 1, none⟩) hg).trans c1
      have HIT := Lib.hid hit
      clear c0 c1 hit hc hg
      go_upto_region 5 with fail
      obtain ⟨gI, hgI⟩ : ∃ g, g = w7.heap.size := ⟨_, rfl⟩
      obtain ⟨w8, hw8⟩ : ∃ W, W = w7.alloc (.cells #[.string it.t, .complex .f64 0 0] 63) := ⟨_, rfl⟩
      rw [← hw8, ← hgI]
      have hbe8 : Below w7.heap.size w7 w8 := by rw [hw8]; exact (Below.refl _ _).alloc (Nat.le_refl _) _
      have hk8 : Blk w8 gI 63 #[.string it.t, .complex .f64 0 0] := by rw [hw8, hgI]; exact Blk.new _ _ _
      have ho8 : w8.ownsRow w.heap.size 9 1 (.slice A4 j c4) j (((l.take j).map (·.t)).map Value.string) := by rw [hw8]; exact HO.out.alloc _
      have HO8 := Lib.hid ho8
      have HBE8 := Lib.hid (HBE.out.trans (hbe8.mono HBE.out.size))
      have HK8 := Lib.hid hk8
      have e0 : w8.cell? ⟨gI, 0, none⟩ = some (.string it.t) := hk8.cell 0
      have HGI := Lib.hid (show ∀ k, (Value.slice A4 j c4).ownBlock = some k → gI ≠ k from fun k hk e => by have := (HO.out.lt k hk).2; omega)
      clear hw8 hbe8 hk8 ho8 hgI d0 d1
      go_upto_region 6 with (at_builtin; refine wpList_append_own _ rfl _ _ 36 rfl w.heap.size 9 ii (.string ⟨#[]⟩) 1 16 Try.underlying36 hii hi0 hi1 hi2 rfl (by decide) _ _ _ rfl (HO8.out.alloc _) ⟨_, 0, none⟩ 1 1 [.string it.t] rfl rfl (cell_one_new _ _ _) (one_cell_str _) (by simp only [maxLen]; omega) (by omega) (by have := HBE8.out.size; simp; omega) ?_; intro v1 w1 hown1 hg1 _hne; have HOWN1 := Lib.hid hown1; have HBE1 := Lib.hid (push_below HBE8.out HBE8.out.size HO8.out _ hg1); have HG1 := Lib.hid hg1; clear hown1 hg1 _hne)
      have hk1 : Blk w1 gI 63 #[.string it.t, .complex .f64 0 0] := by
        have h1 := HK8.out.alloc (.cells #[.string it.t] 9)
        exact (HG1.out.block gI h1.lt (fun e => HGI.out gI e.symm rfl)).trans h1
      have e1 : w1.cell? ⟨gI, 1, none⟩ = some (.complex .f64 0 0) := hk1.cell 1
      clear e0 hk1
      go_wp2_with fail
      go_roundw
      case rel => exact Lib.hid ⟨j + 1, by omega, by go_num, by rw [List.take_add_one, HIT.out]; simpa using HOWN1.out, HBE1.out, _, rfl⟩
      case measure => simp [intOf]; omega
    · have e : j = n := by omega
      subst e
      have ho := HO.out
      rw [List.take_of_length_le (by have := HN.out; omega)] at ho
      have hn := HN.out
      obtain ⟨A5, c5, e5, hR⟩ := own_reads (xs := l.map (·.t)) (by rw [List.length_map, ← hn]; exact ho)
      injection e5 with e5 e6 e7
      subst e5 e7
      rw [List.length_map, ← hn] at hR
      have hA := rAll_any A4 j c4 (l.map (·.t)) w7 hR (by omega) (fun s hs => by
        obtain ⟨i, hi, rfl⟩ := List.mem_map.1 hs
        have := HQ.out i hi
        unfold maxLen; omega)
      clear ho e6 hR
      by_cases h4 : j ≤ 4
      · have HOK := Lib.hid (itOk_ask (l := l) (by omega))
        clear hn
        go_wp2_with (go_at_call 50; refine hA.mono ?_; rintro e w8 ⟨rfl, hb8⟩; have HB8 := Lib.hid (HBE.out.trans (hb8.mono HBE.out.size)); clear hb8)
        go_ret
        rw [HOK.out]
        exact ⟨rfl, HB8.out⟩
      · have HOK := Lib.hid (itOk_big 5 l (by omega))
        clear hn
        go_wp2_with fail
        go_ret
        rw [HOK.out]
        exact ⟨rfl, HBE.out⟩
theorem rItems0 (k : Nat) (w : World) (h1 : k ≠ 1) (h5 : k ≠ 5) (h9 : k ≤ 9) :
    Calls Try.prog 39 #[.int .i64 k, .slice none 0 0] w fun e w' => e = .returned (.bool true) ∧ Below w.heap.size w w' := by
  have e1 : ¬ (k : Int) = 1 := by omega
  have e2 : ¬ (k : Int) = 5 := by omega
  have e3 : ¬ (k : Int) = 14 := by omega
  have f1 : ¬ k = 14 := by omega
  go_enter Try.func39, Try.ntmps39
  go_wp2_with fail
  go_loopw [5, 10] (fun nv i wr => Hid (i = .int .i64 0 ∧ wr = w)) (fun _ i _ => 0)
  case atStart => exact Lib.hid ⟨rfl, rfl⟩
  case round =>
    obtain ⟨rfl, rfl⟩ := hrel.out
    clear hrel
    go_wp2_with fail
    go_ret
    exact ⟨rfl, Below.refl _ _⟩
def itQ (k : Nat) (l : List Itm) : Bool := if k = 1 ∨ k = 5 then itOk k l else true
theorem rItems_any (k : Nat) (v : Value) (l : List Itm) (w : World) (h9 : k ≤ 9) (hi : Its fwI w v l) (hl : l.length ≤ 1001) (hq : ∀ i ∈ l, i.t.size ≤ 1000) (hbd : ∀ i ∈ l, iBd i) (ha : k ≠ 1 → ∀ i ∈ l, i.a = 0 ∧ i.b = 0) (hn : k ≠ 1 → k ≠ 5 → v = .slice none 0 0) :
    Calls Try.prog 39 #[.int .i64 k, v] w fun e w' => e = .returned (.bool (itQ k l)) ∧ Below w.heap.size w w' := by
  unfold itQ
  by_cases h1 : k = 1
  · subst h1
    rw [if_pos (.inl rfl)]
    exact rItems1 v l w hi hl hq hbd
  by_cases h5 : k = 5
  · subst h5
    rw [if_pos (.inr rfl)]
    refine rItems5 v l w (its_zero hi fun i hi => ?_) hl hq
    obtain ⟨e1, e2⟩ := ha h1 i hi
    unfold fwI
    rw [e1, e2]
    exact Prod.ext fw_zero fw_zero
  · rw [if_neg (by omega), hn h1 h5]
    exact rItems0 k w h1 h5 h9
end Go.Proofs.Ytfbedlhigggggaa.Sp
namespace Go.Proofs.Ytfbedlhigggggaa.Sp
open Go Go.RowKit Go.Lib Go.Proofs.Ytfbedlhigggggaa Go.Proofs.Ytfbedlhigggggaa.Crw Go.Proofs.Ytfbedlhigggggaa.Vl Go.ChangeShapes Go.WideShapes Go.ChangeAt
set_option linter.unusedVariables false
set_option maxRecDepth 100000
theorem wrdA_sp : ∀ (l g : List UInt8), wrdA g (l ++ [32]) = wrdA g l
  | [], g => by
    simp only [List.nil_append]
    unfold wrdA
    rw [if_pos rfl]
    split <;> simp [wrdA]
  | c :: r, g => by
    rw [List.cons_append]
    unfold wrdA
    rw [wrdA_sp r [], wrdA_sp r (g ++ [c])]
theorem wrdA_cons (g : List UInt8) (c : UInt8) (r : List UInt8) : wrdA g (c :: r) = if c = 32 then (if g = [] then wrdA [] r else ⟨g.toArray⟩ :: wrdA [] r) else wrdA (g ++ [c]) r := by
  conv => lhs; unfold wrdA
theorem sp_drop (s : ByteArray) (k : Nat) (h : k < s.size) : (s.data.toList ++ [32]).drop k = s[k] :: (s.data.toList ++ [32]).drop (k + 1) := by
  rw [List.drop_append_of_le_length (by simp; omega), List.drop_append_of_le_length (by simp; omega), drop_at s k h, List.cons_append]
theorem sp_last (s : ByteArray) : (s.data.toList ++ [32]).drop s.size = [32] := by
  rw [List.drop_append_of_le_length (by simp), List.drop_of_length_le (by simp)]
  rfl
theorem sp_end (s : ByteArray) : (s.data.toList ++ [32]).drop (s.size + 1) = [] := List.drop_of_length_le (by simp)
theorem app1 (q s : ByteArray) (k : Nat) (h : k < s.size) : (q ++ s.extract k (k + 1)).data.toList = q.data.toList ++ [s[k]] := by
  rw [ext_mk]
  have e : (s.data.toList.take (k + 1)).drop k = [s[k]] := by
    rw [List.drop_take, drop_at s k h]
    simp
  rw [e]
  simp
set_option maxHeartbeats 4000000 in
theorem lWords_any (s : ByteArray) (w : World) (hs : s.size ≤ 1000) :
    Calls Try.prog 17 #[.string s] w fun e w' => ∃ v, e = .returned v ∧ Below w.heap.size w w' ∧ w'.ownsRow w.heap.size 9 1 v (wrd s.data.toList).length ((wrd s.data.toList).map Value.string) := by
  obtain ⟨ii, hii, hi0, hi1, hi2⟩ := info_parts str_infoF
  have hmx : 1002 ≤ maxLen := by decide
  obtain ⟨L, hL⟩ : ∃ L, L = wrd s.data.toList := ⟨_, rfl⟩
  rw [← hL]
  have HL := Lib.hid hL
  clear hL
  go_enter Try.func17, Try.ntmps17
  go_wp2_with fail
  go_loopw [3, 4, 5] (fun o p i wr => Hid (∃ (k : Nat) (xs : List ByteArray) (q : ByteArray), k ≤ s.size + 1 ∧ i = .int .i64 k ∧ p = .string q ∧ q.size ≤ k ∧ xs.length ≤ k ∧ wr.ownsRow w.heap.size 9 1 o xs.length (xs.map Value.string) ∧ Below w.heap.size w wr ∧ L = xs ++ wrdA q.data.toList ((s.data.toList ++ [32]).drop k) ∧ (k = s.size + 1 → q.data.toList = []) ∧ ∃ w7, w7 = wr)) (fun _ _ i _ => s.size + 1 - (intOf i).toNat)
  case atStart => exact Lib.hid ⟨0, [], ⟨#[]⟩, by omega, rfl, rfl, by decide, by simp, World.ownsRow_nil _ _ _ _, Below.refl _ _, by rw [HL.out, List.drop_zero, wrdA_sp]; rfl, fun _ => rfl, _, rfl⟩
  case round =>
    obtain ⟨k, xs, q, hk, rfl, rfl, hq, hx, ho, hb, hsp, hqe, w7, hw7⟩ := hrel.out
    subst hw7
    clear hrel
    obtain ⟨A4, c4, rfl, -, -⟩ := own_slice ho
    have HO := Lib.hid ho
    have HB := Lib.hid hb
    have HSP := Lib.hid hsp
    have HQE := Lib.hid hqe
    have HX := Lib.hid hx
    clear ho hb hsp hqe hx
    by_cases hle : k ≤ s.size
    · by_cases hc : ∃ h : k < s.size, (s[k]'h).toNat ≠ 32
      · obtain ⟨hlt, hc⟩ := hc
        have hb : (s[k].toNat : Int) ≤ 255 := by have := s[k].toNat_lt; omega
        have hc' : ¬ (s[k].toNat : Int) = 32 := by omega
        have HC : Hid (s[k] ≠ 32) := fun e => hc (by rw [e]; rfl)
        have HA := Lib.hid (app1 q s k hlt)
        have HD := Lib.hid (sp_drop s k hlt)
        have hw1 : IntKind.i64.wrap ((k : Int) + 1) = ((k + 1 : Nat) : Int) := by rw [IntKind.wrap_i64]; omega
        clear hc
        go_wp2_with fail
        go_roundw
        case rel =>
          refine Lib.hid ⟨k + 1, xs, q ++ s.extract k (k + 1), by omega, by go_num, rfl, by rw [ByteArray.size_append, ByteArray.size_extract]; omega, by have := HX.out; omega, HO.out, HB.out, ?_, fun e => by omega, _, rfl⟩
          rw [HSP.out, HD.out, wrdA_cons, if_neg HC.out, HA.out]
        case measure => simp [intOf]; omega
      · have HW : Hid (L = xs ++ (if q.data.toList = [] then wrdA [] ((s.data.toList ++ [32]).drop (k + 1)) else ⟨q.data.toList.toArray⟩ :: wrdA [] ((s.data.toList ++ [32]).drop (k + 1)))) := by
          show _ = _
          rw [HSP.out]
          rcases Nat.lt_or_ge k s.size with hlt | hge
          · have e : s[k] = 32 := by
              apply UInt8.toNat_inj.1
              have h1 : ¬ (s[k].toNat ≠ 32) := fun h => hc ⟨hlt, h⟩
              have : (32 : UInt8).toNat = 32 := rfl
              omega
            rw [sp_drop s k hlt, e, wrdA_cons, if_pos rfl]
          · obtain rfl : k = s.size := by omega
            rw [sp_last, sp_end, wrdA_cons, if_pos rfl]
        have hlt' : k < s.size → ∃ h : k < s.size, ((s[k]'h).toNat : Int) = 32 := fun h => ⟨h, by
          have h1 : ¬ (s[k].toNat ≠ 32) := fun h' => hc ⟨h, h'⟩
          omega⟩
        clear hc
        have hcase : (k < s.size ∧ ∃ h : k < s.size, ((s[k]'h).toNat : Int) = 32) ∨ k = s.size := by
          rcases Nat.lt_or_ge k s.size with h | h
          · exact .inl ⟨h, hlt' h⟩
          · exact .inr (by omega)
        clear hlt'
        have hqn : q = ⟨q.data.toList.toArray⟩ := by cases q; simp
        have HQN := Lib.hid hqn
        clear hqn
        rcases hcase with ⟨hlt, _, h32⟩ | hks
        · by_cases hq0 : q.toList = []
          · have HQ0 : Hid (q.data.toList = []) := by rw [← ByteArray.toList_eq]; exact Lib.hid hq0
            go_wp2_with fail
            go_roundw
            case rel =>
              refine Lib.hid ⟨k + 1, xs, ⟨#[]⟩, by omega, by go_num, rfl, Nat.zero_le _, by have := HX.out; omega, HO.out, HB.out, ?_, fun e => rfl, _, rfl⟩
              rw [HW.out, if_pos HQ0.out]
            case measure => simp [intOf]; omega
          · have HQ0 : Hid (¬ q.data.toList = []) := by rw [← ByteArray.toList_eq]; exact Lib.hid hq0
            have hqe2 : q.toList.isEmpty = false := by rw [List.isEmpty_eq_false_iff]; exact hq0
            go_wp2_with (at_builtin; refine wpList_append_own _ rfl _ _ 36 rfl w.heap.size 9 ii (.string ⟨#[]⟩) 1 16 Try.underlying36 hii hi0 hi1 hi2 rfl (by decide) _ _ _ rfl (HO.out.alloc _) ⟨_, 0, none⟩ 1 1 [.string q] rfl rfl (cell_one_new _ _ _) (one_cell_str _) (by have := HX.out; simp only [maxLen]; omega) (by have := HX.out; omega) (by have := HB.out.size; simp; omega) ?_; intro v1 w1 hown1 hg1 _hne; have HOWN1 := Lib.hid hown1; have HB1 := Lib.hid (push_below HB.out HB.out.size HO.out _ hg1); clear hown1 hg1 _hne)
            go_roundw
            case rel =>
              refine Lib.hid ⟨k + 1, xs ++ [q], ⟨#[]⟩, by omega, by go_num, rfl, Nat.zero_le _, by have := HX.out; simp; omega, by simpa using HOWN1.out, HB1.out, ?_, fun e => rfl, _, rfl⟩
              rw [HW.out, if_neg HQ0.out, ← HQN.out]
              simp
            case measure => simp [intOf]; omega
        · subst hks
          by_cases hq0 : q.toList = []
          · have HQ0 : Hid (q.data.toList = []) := by rw [← ByteArray.toList_eq]; exact Lib.hid hq0
            go_wp2_with fail
            go_roundw
            case rel =>
              refine Lib.hid ⟨s.size + 1, xs, ⟨#[]⟩, by omega, by go_num, rfl, Nat.zero_le _, by have := HX.out; omega, HO.out, HB.out, ?_, fun e => rfl, _, rfl⟩
              rw [HW.out, if_pos HQ0.out]
            case measure => simp [intOf] <;> omega
          · have HQ0 : Hid (¬ q.data.toList = []) := by rw [← ByteArray.toList_eq]; exact Lib.hid hq0
            have hqe2 : q.toList.isEmpty = false := by rw [List.isEmpty_eq_false_iff]; exact hq0
            go_wp2_with (at_builtin; refine wpList_append_own _ rfl _ _ 36 rfl w.heap.size 9 ii (.string ⟨#[]⟩) 1 16 Try.underlying36 hii hi0 hi1 hi2 rfl (by decide) _ _ _ rfl (HO.out.alloc _) ⟨_, 0, none⟩ 1 1 [.string q] rfl rfl (cell_one_new _ _ _) (one_cell_str _) (by have := HX.out; simp only [maxLen]; omega) (by have := HX.out; omega) (by have := HB.out.size; simp; omega) ?_; intro v1 w1 hown1 hg1 _hne; have HOWN1 := Lib.hid hown1; have HB1 := Lib.hid (push_below HB.out HB.out.size HO.out _ hg1); clear hown1 hg1 _hne)
            go_roundw
            case rel =>
              refine Lib.hid ⟨s.size + 1, xs ++ [q], ⟨#[]⟩, by omega, by go_num, rfl, Nat.zero_le _, by have := HX.out; simp; omega, by simpa using HOWN1.out, HB1.out, ?_, fun e => rfl, _, rfl⟩
              rw [HW.out, if_neg HQ0.out, ← HQN.out]
              simp
            case measure => simp [intOf] <;> omega
    · have e : k = s.size + 1 := by omega
      subst e
      have HE : Hid (L = xs) := by
        show _ = _
        rw [HSP.out, sp_end, HQE.out rfl]
        simp [wrdA]
      go_wp2_with fail
      go_ret
      refine ⟨_, rfl, HB.out, ?_⟩
      rw [HE.out]
      exact HO.out
/-! Lines. -/
def dropE : List (List UInt8) → List (List UInt8)
  | [] => []
  | [l] => if l = [] then [] else [l]
  | l :: m :: r => l :: dropE (m :: r)
theorem prsL_dropE : ∀ ls : List (List UInt8), prsL (dropE ls) = prsL ls
  | [] => rfl
  | [l] => by
    unfold dropE
    split
    · subst l
      rw [prsL_nilline]
    · rfl
  | l :: m :: r => by
    unfold dropE
    rw [prsL_cons, prsL_cons, prsL_dropE (m :: r)]
theorem linF_ne : ∀ (l g : List UInt8), linF g l ≠ []
  | [], g => by simp [linF]
  | c :: r, g => by
    rw [linF_cons]
    split
    · simp
    · exact linF_ne r _
theorem linF_out : ∀ (a g : List UInt8), (10 : UInt8) ∉ a → linF g a = [g ++ a]
  | [], g, h => by simp [linF]
  | c :: r, g, h => by
    simp only [List.mem_cons, not_or] at h
    rw [linF_cons, if_neg (fun e => h.1 e.symm), linF_out r _ h.2]
    simp
theorem linF_at : ∀ (a g b : List UInt8), (10 : UInt8) ∉ a → linF g (a ++ 10 :: b) = (g ++ a) :: linF [] b
  | [], g, b, h => by simp [linF_cons]
  | c :: r, g, b, h => by
    simp only [List.mem_cons, not_or] at h
    rw [List.cons_append, linF_cons, if_neg (fun e => h.1 e.symm), linF_at r _ b h.2]
    simp
theorem lins_one {t : ByteArray} (h0 : 0 < t.size) (h : (10 : UInt8) ∉ t.data.toList.take t.size) : dropE (lins t.data.toList) = t.data.toList :: dropE (lins []) := by
  have e : t.data.toList.take t.size = t.data.toList := List.take_of_length_le (by simp)
  rw [e] at h
  unfold lins
  rw [linF_out _ _ h]
  have hne : ¬ t.data.toList = [] := by
    intro e1
    have : t.data.toList.length = t.size := by simp
    rw [e1] at this
    simp at this
    omega
  simp only [List.nil_append, linF, dropE, if_neg hne, if_true]
theorem lins_cut {t : ByteArray} {k : Nat} (hk : k < t.size) (h : (10 : UInt8) ∉ t.data.toList.take k) (hc : t[k] = 10) : dropE (lins t.data.toList) = t.data.toList.take k :: dropE (lins (t.data.toList.drop (k + 1))) := by
  have e : t.data.toList = t.data.toList.take k ++ 10 :: t.data.toList.drop (k + 1) := by
    rw [← hc, ← drop_at t k hk, List.take_append_drop]
  unfold lins
  conv => lhs; rw [e]
  rw [linF_at _ _ _ h, List.nil_append]
  cases hd : linF [] (t.data.toList.drop (k + 1)) with
  | nil => exact absurd hd (linF_ne _ _)
  | cons m r => rfl
theorem take_10 {t : ByteArray} {k : Nat} (hk : k < t.size) (h : (10 : UInt8) ∉ t.data.toList.take k) (hc : t[k] ≠ 10) : (10 : UInt8) ∉ t.data.toList.take (k + 1) := by
  have e : t.data.toList[k]? = some t[k] := by rw [List.getElem?_eq_getElem (by simpa using hk)]; rfl
  rw [List.take_add_one, e]
  simp only [Option.toList, List.mem_append, List.mem_singleton, not_or]
  exact ⟨h, fun e => hc e.symm⟩
set_option maxHeartbeats 4000000 in
theorem lines_any (s : ByteArray) (w : World) (hs : s.size ≤ 1000) :
    Calls Try.prog 16 #[.string s] w fun e w' => ∃ (v : Value) (xs : List ByteArray), e = .returned v ∧ Below w.heap.size w w' ∧ w'.ownsRow w.heap.size 9 1 v xs.length (xs.map Value.string) ∧ (∀ q ∈ xs, q.size ≤ 1000) ∧ xs.length ≤ 1000 ∧ prsL (xs.map (·.data.toList)) = prs s.data.toList := by
  obtain ⟨ii, hii, hi0, hi1, hi2⟩ := info_parts str_infoF
  have hmx : 1002 ≤ maxLen := by decide
  obtain ⟨L, hL⟩ : ∃ L, L = dropE (lins s.data.toList) := ⟨_, rfl⟩
  have HL : Hid (prs s.data.toList = prsL L) := by
    show _ = _
    rw [hL, prsL_dropE]; rfl
  have HL2 := Lib.hid hL
  clear hL
  generalize prs s.data.toList = P at HL ⊢
  go_enter Try.func16, Try.ntmps16
  go_wp2_with fail
  go_loopw [0, 3] (fun sv o wr => Hid (∃ (t : ByteArray) (xs : List ByteArray), sv = .string t ∧ t.size ≤ s.size ∧ xs.length + t.size ≤ s.size ∧ wr.ownsRow w.heap.size 9 1 o xs.length (xs.map Value.string) ∧ Below w.heap.size w wr ∧ L = xs.map (·.data.toList) ++ dropE (lins t.data.toList) ∧ (∀ q ∈ xs, q.size ≤ s.size) ∧ ∃ w7, w7 = wr)) (fun sv _ _ => sizeV sv)
  case atStart => exact Lib.hid ⟨s, [], rfl, by omega, by simp, World.ownsRow_nil _ _ _ _, Below.refl _ _, by rw [HL2.out]; rfl, by simp, _, rfl⟩
  case round =>
    obtain ⟨t, xs, rfl, hts, hx, ho, hb, hsp, hq, w7, hw7⟩ := hrel.out
    subst hw7
    clear hrel
    obtain ⟨A4, c4, rfl, -, -⟩ := own_slice ho
    have HO := Lib.hid ho
    have HB := Lib.hid hb
    have HSP := Lib.hid hsp
    have HQ := Lib.hid hq
    have HX := Lib.hid hx
    clear ho hb hsp hq hx
    by_cases h0 : 0 < t.size
    · have h0' : (0 : Int) < (t.size : Int) := by omega
      go_wp2_with fail
      go_loopw [4] (fun i wr => Hid (∃ k : Nat, k ≤ t.size ∧ i = .int .i64 k ∧ wr = w7 ∧ (10 : UInt8) ∉ t.data.toList.take k)) (fun i _ => t.size - (intOf i).toNat)
      case atStart => exact Lib.hid ⟨0, by omega, rfl, by first | rfl | trivial, by simp⟩
      case round =>
        obtain ⟨k, hk, rfl, hwr, hnt⟩ := hrel.out
        subst hwr
        clear hrel
        have HNT := Lib.hid hnt
        clear hnt
        by_cases hlt : k < t.size
        · have hb : (t[k].toNat : Int) ≤ 255 := by have := t[k].toNat_lt; omega
          by_cases hc : (t[k].toNat : Int) = 10
          · have HC : Hid (t[k] = 10) := UInt8.toNat_inj.1 (by have : (10 : UInt8).toNat = 10 := rfl; omega)
            have HCUT := Lib.hid (lins_cut hlt HNT.out HC.out)
            have hw1 : IntKind.i64.wrap ((k : Int) + 1) = ((k + 1 : Nat) : Int) := by rw [IntKind.wrap_i64]; omega
            have hmn : min ((k : Int) + 1) (t.size : Int) = (k : Int) + 1 := by omega
            go_wp2_with (at_builtin; refine wpList_append_own _ rfl _ _ 36 rfl w.heap.size 9 ii (.string ⟨#[]⟩) 1 16 Try.underlying36 hii hi0 hi1 hi2 rfl (by decide) _ _ _ rfl (HO.out.alloc _) ⟨_, 0, none⟩ 1 1 [.string (t.extract 0 k)] rfl rfl (cell_one_new _ _ _) (one_cell_str _) (by have := HX.out; simp only [maxLen]; omega) (by have := HX.out; omega) (by have := HB.out.size; simp; omega) ?_; intro v1 w1 hown1 hg1 _hne; have HOWN1 := Lib.hid hown1; have HB1 := Lib.hid (push_below HB.out HB.out.size HO.out _ hg1); clear hown1 hg1 _hne)
            go_roundw
            case rel =>
              refine Lib.hid ⟨t.extract (k + 1) t.size, xs ++ [t.extract 0 k], rfl, by rw [ByteArray.size_extract]; omega, by have := HX.out; rw [ByteArray.size_extract]; simp; omega, by simpa using HOWN1.out, HB1.out, ?_, fun q hq => ?_, _, rfl⟩
              · rw [HSP.out, HCUT.out, ext_mk, ext_mk]
                simp
                rw [List.take_of_length_le (show t.data.toList.length ≤ t.size by simp)]
              · rcases List.mem_append.1 hq with hq | hq
                · exact HQ.out q hq
                · simp at hq; subst hq; rw [ByteArray.size_extract]; omega
            case measure => simp [sizeV]; omega
          · have HC : Hid (t[k] ≠ 10) := fun e => hc (by rw [e]; rfl)
            go_wp2_with fail
            go_roundw
            case rel => exact Lib.hid ⟨k + 1, by omega, by go_num, by first | rfl | trivial, take_10 hlt HNT.out HC.out⟩
            case measure => simp [intOf]; omega
        · have e : k = t.size := by omega
          subst e
          have HCUT := Lib.hid (lins_one h0 HNT.out)
          have hw1 : IntKind.i64.wrap ((t.size : Int) + 1) = ((t.size + 1 : Nat) : Int) := by rw [IntKind.wrap_i64]; omega
          have hmn : min ((t.size : Int) + 1) (t.size : Int) = (t.size : Int) := by omega
          go_wp2_with (at_builtin; refine wpList_append_own _ rfl _ _ 36 rfl w.heap.size 9 ii (.string ⟨#[]⟩) 1 16 Try.underlying36 hii hi0 hi1 hi2 rfl (by decide) _ _ _ rfl (HO.out.alloc _) ⟨_, 0, none⟩ 1 1 [.string t] rfl rfl (cell_one_new _ _ _) (one_cell_str _) (by have := HX.out; simp only [maxLen]; omega) (by have := HX.out; omega) (by have := HB.out.size; simp; omega) ?_; intro v1 w1 hown1 hg1 _hne; have HOWN1 := Lib.hid hown1; have HB1 := Lib.hid (push_below HB.out HB.out.size HO.out _ hg1); clear hown1 hg1 _hne)
          go_roundw
          case rel =>
            refine Lib.hid ⟨ByteArray.empty, xs ++ [t], rfl, by simp, by have := HX.out; simp; omega, by simpa using HOWN1.out, HB1.out, ?_, fun q hq => ?_, _, rfl⟩
            · rw [HSP.out, HCUT.out]
              simp
            · rcases List.mem_append.1 hq with hq | hq
              · exact HQ.out q hq
              · simp at hq; subst hq; omega
          case measure => simp [sizeV]; omega
    · have e0 : t.size = 0 := by omega
      have e : t.data.toList = [] := List.eq_nil_of_length_eq_zero (by simpa using e0)
      have HE : Hid (L = xs.map (·.data.toList)) := by
        show _ = _
        rw [HSP.out, e]
        simp [lins, linF, dropE]
      clear e
      go_wp2_with fail
      go_ret
      refine ⟨_, xs, rfl, HB.out, HO.out, fun q hq => by have := HQ.out q hq; omega, by have := HX.out; omega, ?_⟩
      rw [← HE.out, HL.out]
end Go.Proofs.Ytfbedlhigggggaa.Sp
namespace Go.Proofs.Ytfbedlhigggggaa.Sp
open Go Go.RowKit Go.Lib Go.Proofs.Ytfbedlhigggggaa Go.Proofs.Ytfbedlhigggggaa.Crw Go.Proofs.Ytfbedlhigggggaa.Vl Go.ChangeShapes Go.WideShapes Go.ChangeAt
set_option linter.unusedVariables false
set_option maxRecDepth 100000
set_option maxHeartbeats 8000000 in
theorem rSame_any (φ : Itm → Nat × Nat) (m : Mg) (va vb : Value) (w : World) (ha : Its φ w va m.I) (hb : Its φ w vb m.I) (hf : Feq φ m.I) (hl : m.I.length ≤ 1001) :
    Calls Try.prog 20 #[.agg (mc m va), .agg (mc m vb)] w fun e w' => e = .returned (.bool true) ∧ Below w.heap.size w w' := by
  obtain ⟨W, hW⟩ : ∃ W, W = (w.alloc (.cells (mc m va) 40)).alloc (.cells (mc m vb) 40) := ⟨_, rfl⟩
  obtain ⟨g, hg⟩ : ∃ g, g = w.heap.size := ⟨_, rfl⟩
  have hbe : Below w.heap.size w W := by rw [hW]; exact ((Below.refl _ _).alloc (Nat.le_refl _) _).alloc (by simp) _
  have hk1 : Blk W g 40 (mc m va) := by rw [hW, hg]; exact (Blk.new w 40 (mc m va)).below ((Below.refl _ _).alloc (Nat.le_refl _) _) (Blk.new w 40 (mc m va)).lt
  have hk2 : Blk W (g + 1) 40 (mc m vb) := by
    rw [hW, hg]
    have := Blk.new (w.alloc (.cells (mc m va) 40)) 40 (mc m vb)
    simpa using this
  have a0 : W.cell? ⟨g, 0, none⟩ = some (.int .i64 m.k) := hk1.cell 0
  have a1 : W.cell? ⟨g, 1, none⟩ = some (.string m.F) := hk1.cell 1
  have a2 : W.cell? ⟨g, 2, none⟩ = some (.string m.E) := hk1.cell 2
  have a3 : W.cell? ⟨g, 3, none⟩ = some (.string m.T) := hk1.cell 3
  have a4 : W.cell? ⟨g, 4, none⟩ = some (.int .i64 m.N) := hk1.cell 4
  have a5 : W.cell? ⟨g, 5, none⟩ = some (.int .i64 m.S) := hk1.cell 5
  have a6 : W.cell? ⟨g, 6, none⟩ = some (.int .i64 m.U) := hk1.cell 6
  have a7 : W.cell? ⟨g, 7, none⟩ = some (.int .i64 m.P) := hk1.cell 7
  have a8 : W.cell? ⟨g, 8, none⟩ = some (va) := hk1.cell 8
  have b0 : W.cell? ⟨g + 1, 0, none⟩ = some (.int .i64 m.k) := hk2.cell 0
  have b1 : W.cell? ⟨g + 1, 1, none⟩ = some (.string m.F) := hk2.cell 1
  have b2 : W.cell? ⟨g + 1, 2, none⟩ = some (.string m.E) := hk2.cell 2
  have b3 : W.cell? ⟨g + 1, 3, none⟩ = some (.string m.T) := hk2.cell 3
  have b4 : W.cell? ⟨g + 1, 4, none⟩ = some (.int .i64 m.N) := hk2.cell 4
  have b5 : W.cell? ⟨g + 1, 5, none⟩ = some (.int .i64 m.S) := hk2.cell 5
  have b6 : W.cell? ⟨g + 1, 6, none⟩ = some (.int .i64 m.U) := hk2.cell 6
  have b7 : W.cell? ⟨g + 1, 7, none⟩ = some (.int .i64 m.P) := hk2.cell 7
  have b8 : W.cell? ⟨g + 1, 8, none⟩ = some (vb) := hk2.cell 8
  have hia := ha.below hbe
  have hib := hb.below hbe
  obtain ⟨Aa, ca, rfl, hA5⟩ := hia
  obtain ⟨Ab, cb, rfl, hB5⟩ := hib
  obtain ⟨n, hn⟩ : ∃ n, n = m.I.length := ⟨_, rfl⟩
  rw [← hn] at hl a8 b8
  have HN := Lib.hid hn
  have HB := Lib.hid hbe
  have HW := Lib.hid hW
  have HG := Lib.hid hg
  have HA := Lib.hid hA5
  have HBB := Lib.hid hB5
  have HF := Lib.hid hf
  have HK1 := Lib.hid hk1
  have HK2 := Lib.hid hk2
  clear hbe hk1 hk2 hW hg hA5 hB5 ha hb hf
  go_enter Try.func20, Try.ntmps20
  go_upto_region 1 with fail
  rw [← HW.out, ← HG.out]
  clear HW hn
  go_wp2_with fail
  go_loopw [72] (fun v13 wx => Hid (∃ (k : Nat), v13 = .int .i64 k ∧ k ≤ n ∧ Below W.heap.size W wx ∧ ∃ w7, w7 = wx)) (fun v13 _ => n - (intOf v13).toNat)
  case atStart => exact Lib.hid ⟨0, rfl, by omega, Below.refl _ _, _, rfl⟩
  case round =>
    obtain ⟨k, rfl, hk, hb, w7, hw7⟩ := hrel.out
    subst hw7
    clear hrel
    have HB7 := Lib.hid hb
    clear hb
    by_cases hlt : (k : Int) < (n : Int)
    · obtain ⟨it, hit⟩ : ∃ i, m.I[k]? = some i := ⟨m.I[k]'(by have := HN.out; omega), List.getElem?_eq_getElem _⟩
      obtain ⟨ga, rfl, hga, hca⟩ := HA.out (by intro e; have := HN.out; rw [e] at this; simp at this; omega)
      obtain ⟨gb, rfl, hgb, hcb⟩ := HBB.out (by intro e; have := HN.out; rw [e] at this; simp at this; omega)
      obtain ⟨x0, x1⟩ := hca k it hit
      obtain ⟨y0, y1⟩ := hcb k it hit
      have p0 := (HB7.out.cell (p := ⟨ga, k * 2, none⟩) hga).trans x0
      have p1 := (HB7.out.cell (p := ⟨ga, k * 2 + 1, none⟩) hga).trans x1
      have q0 := (HB7.out.cell (p := ⟨gb, k * 2, none⟩) hgb).trans y0
      have q1 := (HB7.out.cell (p := ⟨gb, k * 2 + 1, none⟩) hgb).trans y1
      have d8 := (HB7.out.cell (p := ⟨g, 8, none⟩) HK1.out.lt).trans a8
      have e8 := (HB7.out.cell (p := ⟨g + 1, 8, none⟩) HK2.out.lt).trans b8
      obtain ⟨f1, f2⟩ := HF.out it (List.mem_of_getElem? hit)
      have heq := fun W => item_neq W it.t _ _ f1 f2
      clear x0 x1 y0 y1 hit hca hcb f1 f2 hga hgb a0 a1 a2 a3 a4 a5 a6 a7 a8 b0 b1 b2 b3 b4 b5 b6 b7 b8
      go_wp2_with fail
      go_quiet (fail)
      go_wp2_with fail
      refine ⟨?_, by simp [intOf]; omega⟩
      exact Lib.hid ⟨k + 1, by simp, by omega, below_drewN HB7.out _, _, rfl⟩
    · go_wp2_with fail
      go_ret
      exact ⟨rfl, HB.out.trans (HB7.out.mono HB.out.size)⟩
set_option maxHeartbeats 8000000 in
theorem lSameStep_any (x : Stp) (va vb : Value) (w : World) (ha : StpF pw w x va) (hb : StpF pw w x vb) :
    Calls Try.prog 19 #[.agg (sc x va), .agg (sc x vb)] w fun e w' => e = .returned (.bool true) ∧ Below w.heap.size w w' := by
  obtain ⟨W, hW⟩ : ∃ W, W = (w.alloc (.cells (sc x va) 42)).alloc (.cells (sc x vb) 42) := ⟨_, rfl⟩
  obtain ⟨g, hg⟩ : ∃ g, g = w.heap.size := ⟨_, rfl⟩
  have hbe : Below w.heap.size w W := by rw [hW]; exact ((Below.refl _ _).alloc (Nat.le_refl _) _).alloc (by simp) _
  have hk1 : Blk W g 42 (sc x va) := by rw [hW, hg]; exact (Blk.new w 42 (sc x va)).below ((Below.refl _ _).alloc (Nat.le_refl _) _) (Blk.new w 42 (sc x va)).lt
  have hk2 : Blk W (g + 1) 42 (sc x vb) := by
    rw [hW, hg]
    have := Blk.new (w.alloc (.cells (sc x va) 42)) 42 (sc x vb)
    simpa using this
  have a0 : W.cell? ⟨g, 0, none⟩ = some (.int .i64 x.k) := hk1.cell 0
  have a1 : W.cell? ⟨g, 1, none⟩ = some (.int .i64 x.m.k) := hk1.cell 1
  have a2 : W.cell? ⟨g, 2, none⟩ = some (.string x.m.F) := hk1.cell 2
  have a3 : W.cell? ⟨g, 3, none⟩ = some (.string x.m.E) := hk1.cell 3
  have a4 : W.cell? ⟨g, 4, none⟩ = some (.string x.m.T) := hk1.cell 4
  have a5 : W.cell? ⟨g, 5, none⟩ = some (.int .i64 x.m.N) := hk1.cell 5
  have a6 : W.cell? ⟨g, 6, none⟩ = some (.int .i64 x.m.S) := hk1.cell 6
  have a7 : W.cell? ⟨g, 7, none⟩ = some (.int .i64 x.m.U) := hk1.cell 7
  have a8 : W.cell? ⟨g, 8, none⟩ = some (.int .i64 x.m.P) := hk1.cell 8
  have a9 : W.cell? ⟨g, 9, none⟩ = some (va) := hk1.cell 9
  have a10 : W.cell? ⟨g, 10, none⟩ = some (.int .i64 x.n) := hk1.cell 10
  have a11 : W.cell? ⟨g, 11, none⟩ = some (.int .i64 x.f) := hk1.cell 11
  have b0 : W.cell? ⟨g + 1, 0, none⟩ = some (.int .i64 x.k) := hk2.cell 0
  have b1 : W.cell? ⟨g + 1, 1, none⟩ = some (.int .i64 x.m.k) := hk2.cell 1
  have b2 : W.cell? ⟨g + 1, 2, none⟩ = some (.string x.m.F) := hk2.cell 2
  have b3 : W.cell? ⟨g + 1, 3, none⟩ = some (.string x.m.E) := hk2.cell 3
  have b4 : W.cell? ⟨g + 1, 4, none⟩ = some (.string x.m.T) := hk2.cell 4
  have b5 : W.cell? ⟨g + 1, 5, none⟩ = some (.int .i64 x.m.N) := hk2.cell 5
  have b6 : W.cell? ⟨g + 1, 6, none⟩ = some (.int .i64 x.m.S) := hk2.cell 6
  have b7 : W.cell? ⟨g + 1, 7, none⟩ = some (.int .i64 x.m.U) := hk2.cell 7
  have b8 : W.cell? ⟨g + 1, 8, none⟩ = some (.int .i64 x.m.P) := hk2.cell 8
  have b9 : W.cell? ⟨g + 1, 9, none⟩ = some (vb) := hk2.cell 9
  have b10 : W.cell? ⟨g + 1, 10, none⟩ = some (.int .i64 x.n) := hk2.cell 10
  have b11 : W.cell? ⟨g + 1, 11, none⟩ = some (.int .i64 x.f) := hk2.cell 11
  have hS := rSame_any pw x.m va vb W (ha.1.below hbe) (hb.1.below hbe) (feq_pw _) ha.2.2
  have HB := Lib.hid hbe
  have HW := Lib.hid hW
  have HG := Lib.hid hg
  clear hbe hk1 hk2 hW hg ha hb
  go_enter Try.func19, Try.ntmps19
  go_upto_region 1 with fail
  rw [← HW.out, ← HG.out]
  clear HW
  go_wp2_with (go_at_call 20; refine hS.mono ?_; rintro e w2 ⟨rfl, hb2⟩; have HB2 := Lib.hid (HB.out.trans (hb2.mono HB.out.size)); clear hb2)
  go_ret
  exact ⟨rfl, HB2.out⟩
theorem stsV_at : ∀ (l : List Sv) (k j : Nat) (p : Sv), l[k]? = some p → j < 12 → (stsV l)[k * 12 + j]? = (sc p.1 p.2)[j]?
  | [], k, j, p, h, hj => by simp at h
  | a :: r, 0, j, p, h, hj => by
    simp at h
    subst h
    show ((sc a.1 a.2).toList ++ stsV r)[0 * 12 + j]? = _
    rw [List.getElem?_append_left (by show 0 * 12 + j < 12; omega)]
    simp
  | a :: r, k + 1, j, p, h, hj => by
    have := stsV_at r k j p (by simpa using h) hj
    show ((sc a.1 a.2).toList ++ stsV r)[(k + 1) * 12 + j]? = _
    rw [List.getElem?_append_right (by show 12 ≤ _; omega), ← this]
    congr 1
    show (k + 1) * 12 + j - 12 = _
    omega
theorem StsP.at_ {φ : Itm → Nat × Nat} {w : World} {g : Nat} {lv : Value} {xs : List Sv} (h : StsP φ w g lv xs) {k : Nat} {p : Sv} (hk : xs[k]? = some p) : ∃ gl cl, lv = .slice (some ⟨gl, 0, none⟩) xs.length cl ∧ gl < w.heap.size ∧ ∀ j, j < 12 → w.cell? ⟨gl, k * 12 + j, none⟩ = (sc p.1 p.2)[j]? := by
  have hl : k < xs.length := (List.getElem?_eq_some_iff.1 hk).1
  rcases h.own.2 with ⟨_, h0⟩ | ⟨gl, cap, cur, rfl, h2, h3, h4, h5, h6, h7⟩
  · omega
  · have hb : Blk w gl 42 cur := h3
    refine ⟨gl, cap, rfl, hb.lt, fun j hj => ?_⟩
    rw [hb.cell, ← stsV_at xs k j p hk hj, ← h7, List.getElem?_take, if_pos (by omega)]
    simp
set_option maxHeartbeats 8000000 in
theorem lSameSteps_any (ga gb : Nat) (va vb : Value) (xs ys : List Sv) (w : World) (ha : StsP pw w ga va xs) (hb : StsP pw w gb vb ys) (he : sts xs = sts ys) (hl : xs.length ≤ 2000) :
    Calls Try.prog 10 #[va, vb] w fun e w' => e = .returned (.bool true) ∧ Below w.heap.size w w' := by
  obtain ⟨n, hn⟩ : ∃ n, n = xs.length := ⟨_, rfl⟩
  have hn2 : ys.length = n := by
    have := congrArg List.length he
    simp [sts] at this
    omega
  have HA := Lib.hid ha
  have HBB := Lib.hid hb
  have HE := Lib.hid he
  have HN := Lib.hid hn
  have HN2 := Lib.hid hn2
  obtain ⟨Aa, ca, rfl, -, -⟩ := own_slice ha.own
  obtain ⟨Ab, cb, rfl, -, -⟩ := own_slice hb.own
  rw [← hn] at hl
  have hx : xs.length = n := hn.symm
  rw [hx] at HA ⊢
  rw [hn2] at HBB ⊢
  clear ha hb he hn hn2 hx
  go_enter Try.func10, Try.ntmps10
  go_wp2_with fail
  go_loopw [13] (fun v13 wx => Hid (∃ (k : Nat), v13 = .int .i64 k ∧ k ≤ n ∧ Below w.heap.size w wx ∧ ∃ w7, w7 = wx)) (fun v13 _ => n - (intOf v13).toNat)
  case atStart => exact Lib.hid ⟨0, rfl, by omega, Below.refl _ _, _, rfl⟩
  case round =>
    obtain ⟨k, rfl, hk, hb, w7, hw7⟩ := hrel.out
    subst hw7
    clear hrel
    have HB7 := Lib.hid hb
    clear hb
    by_cases hlt : (k : Int) < (n : Int)
    · obtain ⟨⟨x, ua⟩, hit⟩ : ∃ p, xs[k]? = some p := ⟨xs[k]'(by have := HN.out; omega), List.getElem?_eq_getElem _⟩
      obtain ⟨⟨y, ub⟩, hiy⟩ : ∃ p, ys[k]? = some p := ⟨ys[k]'(by have := HN2.out; omega), List.getElem?_eq_getElem _⟩
      have hxy : x = y := by
        have h1 : (sts xs)[k]? = some x := by simp [sts, hit]
        have h2 : (sts ys)[k]? = some y := by simp [sts, hiy]
        rw [HE.out, h2] at h1
        injection h1 with h1
        exact h1.symm
      subst hxy
      obtain ⟨gla, cla, e1, hla, hca⟩ := HA.out.at_ hit
      injection e1 with e1 e2 e3
      subst e1
      clear e2 e3
      obtain ⟨glb, clb, e1, hlb, hcb⟩ := HBB.out.at_ hiy
      injection e1 with e1 e2 e3
      subst e1
      clear e2 e3
      have hsa := HA.out.stp _ (List.mem_of_getElem? hit)
      have hsb := HBB.out.stp _ (List.mem_of_getElem? hiy)
      have hS := fun wa (hb : Below w.heap.size w wa) => lSameStep_any x ua ub wa ⟨hsa.1.below hb, hsa.2⟩ ⟨hsb.1.below hb, hsb.2⟩
      have CA : ∀ (wa : World), Below w.heap.size w wa → wa.cell? ⟨gla, k * 12, none⟩ = some (.int .i64 x.k) ∧ wa.cell? ⟨gla, k * 12 + 1, none⟩ = some (.int .i64 x.m.k) ∧ wa.cell? ⟨gla, k * 12 + 2, none⟩ = some (.string x.m.F) ∧ wa.cell? ⟨gla, k * 12 + 3, none⟩ = some (.string x.m.E) ∧ wa.cell? ⟨gla, k * 12 + 4, none⟩ = some (.string x.m.T) ∧ wa.cell? ⟨gla, k * 12 + 5, none⟩ = some (.int .i64 x.m.N) ∧ wa.cell? ⟨gla, k * 12 + 6, none⟩ = some (.int .i64 x.m.S) ∧ wa.cell? ⟨gla, k * 12 + 7, none⟩ = some (.int .i64 x.m.U) ∧ wa.cell? ⟨gla, k * 12 + 8, none⟩ = some (.int .i64 x.m.P) ∧ wa.cell? ⟨gla, k * 12 + 9, none⟩ = some (ua) ∧ wa.cell? ⟨gla, k * 12 + 10, none⟩ = some (.int .i64 x.n) ∧ wa.cell? ⟨gla, k * 12 + 11, none⟩ = some (.int .i64 x.f) := fun wa hb => ⟨(hb.cell (p := ⟨gla, k * 12, none⟩) hla).trans (hca 0 (by decide)), (hb.cell (p := ⟨gla, k * 12 + 1, none⟩) hla).trans (hca 1 (by decide)), (hb.cell (p := ⟨gla, k * 12 + 2, none⟩) hla).trans (hca 2 (by decide)), (hb.cell (p := ⟨gla, k * 12 + 3, none⟩) hla).trans (hca 3 (by decide)), (hb.cell (p := ⟨gla, k * 12 + 4, none⟩) hla).trans (hca 4 (by decide)), (hb.cell (p := ⟨gla, k * 12 + 5, none⟩) hla).trans (hca 5 (by decide)), (hb.cell (p := ⟨gla, k * 12 + 6, none⟩) hla).trans (hca 6 (by decide)), (hb.cell (p := ⟨gla, k * 12 + 7, none⟩) hla).trans (hca 7 (by decide)), (hb.cell (p := ⟨gla, k * 12 + 8, none⟩) hla).trans (hca 8 (by decide)), (hb.cell (p := ⟨gla, k * 12 + 9, none⟩) hla).trans (hca 9 (by decide)), (hb.cell (p := ⟨gla, k * 12 + 10, none⟩) hla).trans (hca 10 (by decide)), (hb.cell (p := ⟨gla, k * 12 + 11, none⟩) hla).trans (hca 11 (by decide))⟩
      have CB : ∀ (wa : World), Below w.heap.size w wa → wa.cell? ⟨glb, k * 12, none⟩ = some (.int .i64 x.k) ∧ wa.cell? ⟨glb, k * 12 + 1, none⟩ = some (.int .i64 x.m.k) ∧ wa.cell? ⟨glb, k * 12 + 2, none⟩ = some (.string x.m.F) ∧ wa.cell? ⟨glb, k * 12 + 3, none⟩ = some (.string x.m.E) ∧ wa.cell? ⟨glb, k * 12 + 4, none⟩ = some (.string x.m.T) ∧ wa.cell? ⟨glb, k * 12 + 5, none⟩ = some (.int .i64 x.m.N) ∧ wa.cell? ⟨glb, k * 12 + 6, none⟩ = some (.int .i64 x.m.S) ∧ wa.cell? ⟨glb, k * 12 + 7, none⟩ = some (.int .i64 x.m.U) ∧ wa.cell? ⟨glb, k * 12 + 8, none⟩ = some (.int .i64 x.m.P) ∧ wa.cell? ⟨glb, k * 12 + 9, none⟩ = some (ub) ∧ wa.cell? ⟨glb, k * 12 + 10, none⟩ = some (.int .i64 x.n) ∧ wa.cell? ⟨glb, k * 12 + 11, none⟩ = some (.int .i64 x.f) := fun wa hb => ⟨(hb.cell (p := ⟨glb, k * 12, none⟩) hlb).trans (hcb 0 (by decide)), (hb.cell (p := ⟨glb, k * 12 + 1, none⟩) hlb).trans (hcb 1 (by decide)), (hb.cell (p := ⟨glb, k * 12 + 2, none⟩) hlb).trans (hcb 2 (by decide)), (hb.cell (p := ⟨glb, k * 12 + 3, none⟩) hlb).trans (hcb 3 (by decide)), (hb.cell (p := ⟨glb, k * 12 + 4, none⟩) hlb).trans (hcb 4 (by decide)), (hb.cell (p := ⟨glb, k * 12 + 5, none⟩) hlb).trans (hcb 5 (by decide)), (hb.cell (p := ⟨glb, k * 12 + 6, none⟩) hlb).trans (hcb 6 (by decide)), (hb.cell (p := ⟨glb, k * 12 + 7, none⟩) hlb).trans (hcb 7 (by decide)), (hb.cell (p := ⟨glb, k * 12 + 8, none⟩) hlb).trans (hcb 8 (by decide)), (hb.cell (p := ⟨glb, k * 12 + 9, none⟩) hlb).trans (hcb 9 (by decide)), (hb.cell (p := ⟨glb, k * 12 + 10, none⟩) hlb).trans (hcb 10 (by decide)), (hb.cell (p := ⟨glb, k * 12 + 11, none⟩) hlb).trans (hcb 11 (by decide))⟩
      have HCA := Lib.hid CA
      have HCB := Lib.hid CB
      have HSS := Lib.hid hS
      clear CA CB hS hsa hsb hca hcb hit hiy hla hlb
      go_upto_region 6 with fail
      have HS : Below w.heap.size w w7.drew := HB7.out.drew
      refine wp_region_noPanic ?_
      refine wp_region_held_drew (S := fun wa => Below w.heap.size w wa) (by kernel_rfl) HS (fun hHeld => ?_)
      refine wpAnyH_take (i := 0) (oi := ?ois1) (v := ?vs1) ?his1 (by kernel_rfl) (by kernel_rfl) (by kernel_rfl) (fun _ _ _ h => h) ?hys1 HS ?rests1
      case his1 => (simp only [List.getElem?_toArray, List.getElem?_cons_zero]; try rfl)
      case hys1 => (refine Or.inl ⟨by rfl, ?_⟩; intro w hSw; go_simp; (try with_reducible rfl))
      try simp only [Act.put, List.setIfInBounds_toArray, List.set_cons_zero, List.set_cons_succ]
      refine wpAnyH_take (i := 1) (oi := ?ois2) (v := ?vs2) ?his2 (by kernel_rfl) (by kernel_rfl) (by kernel_rfl) (fun _ _ _ h => h) ?hys2 HS ?rests2
      case his2 => (simp only [List.getElem?_toArray, List.getElem?_cons_succ, List.getElem?_cons_zero]; try rfl)
      case hys2 => (refine Or.inl ⟨by rfl, ?_⟩; intro w hSw; go_simp; (try with_reducible rfl))
      try simp only [Act.put, List.setIfInBounds_toArray, List.set_cons_zero, List.set_cons_succ]
      refine wpAnyH_take (i := 2) (oi := ?ois3) (v := ?vs3) ?his3 (by kernel_rfl) (by kernel_rfl) (by kernel_rfl) (fun _ _ _ h => h) ?hys3 HS ?rests3
      case his3 => (simp only [List.getElem?_toArray, List.getElem?_cons_succ, List.getElem?_cons_zero]; try rfl)
      case hys3 => (refine Or.inl ⟨by rfl, ?_⟩; intro w hSw; go_simp; (try with_reducible rfl))
      try simp only [Act.put, List.setIfInBounds_toArray, List.set_cons_zero, List.set_cons_succ]
      refine wpAnyH_take (i := 3) (oi := ?ois4) (v := ?vs4) ?his4 (by kernel_rfl) (by kernel_rfl) (by kernel_rfl) (fun _ _ _ h => h) ?hys4 HS ?rests4
      case his4 => (simp only [List.getElem?_toArray, List.getElem?_cons_succ, List.getElem?_cons_zero]; try rfl)
      case hys4 => (refine Or.inl ⟨by rfl, ?_⟩; intro w hSw; have q := HCA.out _ hSw; obtain ⟨k0, k1, k2, k3, k4, k5, k6, k7, k8, k9, k10, k11⟩ := q; go_simp; (try with_reducible rfl))
      try simp only [Act.put, List.setIfInBounds_toArray, List.set_cons_zero, List.set_cons_succ]
      refine wpAnyH_take (i := 4) (oi := ?ois5) (v := ?vs5) ?his5 (by kernel_rfl) (by kernel_rfl) (by kernel_rfl) (fun _ _ _ h => h) ?hys5 HS ?rests5
      case his5 => (simp only [List.getElem?_toArray, List.getElem?_cons_succ, List.getElem?_cons_zero]; try rfl)
      case hys5 => (refine Or.inl ⟨by rfl, ?_⟩; intro w hSw; go_simp; (try with_reducible rfl))
      try simp only [Act.put, List.setIfInBounds_toArray, List.set_cons_zero, List.set_cons_succ]
      refine wpAnyH_take (i := 5) (oi := ?ois6) (v := ?vs6) ?his6 (by kernel_rfl) (by kernel_rfl) (by kernel_rfl) (fun _ _ _ h => h) ?hys6 HS ?rests6
      case his6 => (simp only [List.getElem?_toArray, List.getElem?_cons_succ, List.getElem?_cons_zero]; try rfl)
      case hys6 => (refine Or.inl ⟨by rfl, ?_⟩; intro w hSw; go_simp; (try with_reducible rfl))
      try simp only [Act.put, List.setIfInBounds_toArray, List.set_cons_zero, List.set_cons_succ]
      refine wpAnyH_take (i := 6) (oi := ?ois7) (v := ?vs7) ?his7 (by kernel_rfl) (by kernel_rfl) (by kernel_rfl) (fun _ _ _ h => h) ?hys7 HS ?rests7
      case his7 => (simp only [List.getElem?_toArray, List.getElem?_cons_succ, List.getElem?_cons_zero]; try rfl)
      case hys7 => (refine Or.inl ⟨by rfl, ?_⟩; intro w hSw; go_simp; (try with_reducible rfl))
      try simp only [Act.put, List.setIfInBounds_toArray, List.set_cons_zero, List.set_cons_succ]
      refine wpAnyH_take (i := 7) (oi := ?ois8) (v := ?vs8) ?his8 (by kernel_rfl) (by kernel_rfl) (by kernel_rfl) (fun _ _ _ h => h) ?hys8 HS ?rests8
      case his8 => (simp only [List.getElem?_toArray, List.getElem?_cons_succ, List.getElem?_cons_zero]; try rfl)
      case hys8 => (refine Or.inl ⟨by rfl, ?_⟩; intro w hSw; have q := HCB.out _ hSw; obtain ⟨k0, k1, k2, k3, k4, k5, k6, k7, k8, k9, k10, k11⟩ := q; go_simp; (try with_reducible rfl))
      try simp only [Act.put, List.setIfInBounds_toArray, List.set_cons_zero, List.set_cons_succ]
      refine wpAnyH_ready (rs := [8]) (by kernel_rfl) (by simp) ?_
      refine AllReadyH.cons (o := ?ois9) ?his9 (fun K hK => ?sts9) AllReadyH.nil
      case his9 => (simp only [List.getElem?_toArray, List.getElem?_cons_succ, List.getElem?_cons_zero]; try rfl)
      go_simp
      go_at_call 19
      refine (HSS.out _ HS).mono ?_
      rintro e w8 ⟨rfl, hb8⟩
      try dsimp only
      have HS8 : Below w.heap.size w w8 := HS.trans (hb8.mono HS.size)
      refine hK.out _ _ HS8 (fun _ => ?rss9)
      clear hK K
      try simp only [Act.put, List.setIfInBounds_toArray, List.set_cons_zero, List.set_cons_succ]
      refine wpAnyH_take (i := 9) (oi := ?ois10) (v := ?vs10) ?his10 (by kernel_rfl) (by kernel_rfl) (by kernel_rfl) (fun _ _ _ h => h) ?hys10 HS8 ?rests10
      case his10 => (simp only [List.getElem?_toArray, List.getElem?_cons_succ, List.getElem?_cons_zero]; try rfl)
      case hys10 => (refine Or.inl ⟨by rfl, ?_⟩; intro w hSw; go_simp; (try with_reducible rfl))
      try simp only [Act.put, List.setIfInBounds_toArray, List.set_cons_zero, List.set_cons_succ]
      refine wpAnyH_done (by kernel_rfl) ?_ _
      refine NoPanic.normal ?_
      have HB8 := Lib.hid HS8
      clear HS HS8 hHeld
      go_wp2_with fail
      go_roundw
      case rel => exact Lib.hid ⟨k + 1, by go_num, by omega, HB8.out, _, rfl⟩
      case measure => simp [intOf]; omega
    · go_wp2_with fail
      go_ret
      exact ⟨rfl, HB7.out⟩
end Go.Proofs.Ytfbedlhigggggaa.Sp
namespace Go.Proofs.Ytfbedlhigggggaa.Sp
open Go Go.RowKit Go.Lib Go.Proofs.Ytfbedlhigggggaa Go.Proofs.Ytfbedlhigggggaa.Crw Go.Proofs.Ytfbedlhigggggaa.Vl Go.ChangeShapes Go.WideShapes Go.ChangeAt
set_option linter.unusedVariables false
set_option maxRecDepth 100000
theorem cellsZ {w : World} {g : Nat} {t : TypeId} (h : Blk w g t zsA) : w.cell? ⟨g, 0, none⟩ = some (.int .i64 0) ∧ w.cell? ⟨g, 1, none⟩ = some (.int .i64 0) ∧ w.cell? ⟨g, 2, none⟩ = some (.string ⟨#[]⟩) ∧ w.cell? ⟨g, 3, none⟩ = some (.string ⟨#[]⟩) ∧ w.cell? ⟨g, 4, none⟩ = some (.string ⟨#[]⟩) ∧ w.cell? ⟨g, 5, none⟩ = some (.int .i64 0) ∧ w.cell? ⟨g, 6, none⟩ = some (.int .i64 0) ∧ w.cell? ⟨g, 7, none⟩ = some (.int .i64 0) ∧ w.cell? ⟨g, 8, none⟩ = some (.int .i64 0) ∧ w.cell? ⟨g, 9, none⟩ = some (.slice none 0 0) ∧ w.cell? ⟨g, 10, none⟩ = some (.int .i64 0) ∧ w.cell? ⟨g, 11, none⟩ = some (.int .i64 0) :=
  ⟨h.cell 0, h.cell 1, h.cell 2, h.cell 3, h.cell 4, h.cell 5, h.cell 6, h.cell 7, h.cell 8, h.cell 9, h.cell 10, h.cell 11⟩
set_option maxHeartbeats 16000000 in
theorem lStep_tick (ws : List ByteArray) (Ad : Option Addr) (c : Nat) (w : World) (hnc : ws.length + 1 ≤ c) (hL : ws.length ≤ 1001) (hqs : ∀ x ∈ ws, x.size ≤ 1000) (hs : Ws w Ad (⟨tickL.toArray⟩ :: ws)) :
    Calls Try.prog 18 #[.slice Ad (ws.length + 1) c] w (StepPost w ⟨tickL.toArray⟩ ws) := by
  have HST : Hid (stepS ⟨tickL.toArray⟩ ws = (numsS ws).bind (actS ⟨tickL.toArray⟩)) := by
    show _ = _
    unfold stepS
    rw [show kindS ⟨tickL.toArray⟩ = 0 from by decide]
    rfl
  obtain ⟨m, hm⟩ : ∃ m, m = ws.length := ⟨_, rfl⟩
  rw [← hm] at hnc hL ⊢
  obtain ⟨gA, oA, rfl, hgA, hcA⟩ := hs.at_
  have k0 : w.cell? ⟨gA, oA, none⟩ = some (.string ⟨tickL.toArray⟩) := hcA 0 _ rfl
  obtain ⟨g, hg⟩ : ∃ g, g = w.heap.size := ⟨_, rfl⟩
  obtain ⟨W0, hW0⟩ : ∃ W, W = w.alloc (.cells zsA 42) := ⟨_, rfl⟩
  have hb0 : Below w.heap.size w W0 := by rw [hW0]; exact (Below.refl _ _).alloc (Nat.le_refl _) _
  have hz0 : Blk W0 g 42 zsA := by rw [hW0, hg]; exact Blk.new _ _ _
  obtain ⟨gN, hgN⟩ : ∃ g, g = W0.heap.size := ⟨_, rfl⟩
  have HWD : Hid (∀ (A2 : Option Addr), A2 = (if c = 1 then some ⟨gA, oA, none⟩ else some ⟨gA, oA + 1, none⟩) → ∀ wa : World, Below w.heap.size w wa → Ws wa A2 ws) := Lib.hid (fun A2 hA2 wa hba => by
    refine (hs.below hba).drop (n := 1) (by simp) (fun hne => ?_)
    rw [hA2, if_neg]
    intro e
    apply hne
    exact List.eq_nil_of_length_eq_zero (by omega))
  have HG := Lib.hid hg
  have HGN := Lib.hid hgN
  have HW0 := Lib.hid hW0
  have HZ0 := Lib.hid hz0
  have HB0 := Lib.hid hb0
  have HM := Lib.hid hm
  have HGA := Lib.hid hgA
  have HQS := Lib.hid hqs
  have HK0 := Lib.hid k0
  clear hg hgN hW0 hz0 hb0 hm hgA hs hcA hqs
  have h0m : 0 < m + 1 := by omega
  have h0c : 0 < c := by omega
  have h1n : (1 : Int) ≤ (m : Int) + 1 := by omega
  have h1c : (1 : Int) ≤ (c : Int) := by omega
  go_enter Try.func18, Try.ntmps18
  go_upto_region 1 with fail
  rw [show w.alloc (.cells #[.int .i64 0, .int .i64 0, .string ⟨#[]⟩, .string ⟨#[]⟩, .string ⟨#[]⟩, .int .i64 0, .int .i64 0, .int .i64 0, .int .i64 0, .slice none 0 0, .int .i64 0, .int .i64 0] 42) = W0 from HW0.out.symm, ← HG.out]
  repeat (first | (refine wpList_storeG 42 (cs := zsA) (by kernel_rfl) rfl rfl rfl rfl (by simp [Value.oneCell', zsA]) (Blk.new W0 42 zsA) rfl ?_; intro w1 hbe1 hot1 hk1) | go_step)
  refine Mark.intro ?_
  rw [← HGN.out] at hk1 ⊢
  have hb1 : Below W0.heap.size W0 w1 := hbe1 W0 (Nat.le_refl _) ((Below.refl _ _).alloc (Nat.le_refl _) _)
  have HB1 := Lib.hid (HB0.out.trans (hb1.mono HB0.out.size))
  have HZ1 := Lib.hid (HZ0.out.below hb1 HZ0.out.lt)
  have HN1 := Lib.hid hk1
  have q0 := (HB1.out.cell (p := ⟨gA, oA, none⟩) HGA.out).trans k0
  clear hbe1 hot1 hk1 hb1 k0
  obtain ⟨ii, hii, hi0, hi1, hi2⟩ := info_parts int_infoD
  have hmx : 1002 ≤ maxLen := by decide
  go_upto_block 0 with fail
  obtain ⟨A2, hA2⟩ : ∃ A2 : Option Addr, A2 = (if c = 1 then some ⟨gA, oA, none⟩ else some ⟨gA, oA + 1, none⟩) := ⟨_, rfl⟩
  rw [← hA2]
  have HWT := Lib.hid (HWD.out A2 hA2)
  clear hA2
  go_wp2_with fail
  go_loopw [5, 47] (fun l i wr => Hid (∃ (k : Nat) (xs : List Int), k ≤ m ∧ i = .int .i64 k ∧ xs.length = k ∧ wr.ownsRow w1.heap.size 3 1 l k (xs.map (Value.int .i64)) ∧ Below w1.heap.size w1 wr ∧ numsS ws = (numsS (ws.drop k)).map (xs ++ ·) ∧ ∃ w7, w7 = wr)) (fun _ i _ => m - (intOf i).toNat)
  case atStart => exact Lib.hid ⟨0, [], by omega, rfl, rfl, World.ownsRow_nil _ _ _ _, Below.refl _ _, by simp, _, rfl⟩
  case round =>
    obtain ⟨k, xs, hk, rfl, hx, ho, hb, hsp, w7, hw7⟩ := hrel.out
    subst hw7
    clear hrel
    obtain ⟨A4, c4, rfl, -, -⟩ := own_slice ho
    have HO := Lib.hid ho
    have HB := Lib.hid hb
    have HSP := Lib.hid hsp
    clear ho hb hsp
    have HN7 := Lib.hid (HN1.out.below HB.out HN1.out.lt)
    have HZ7 := Lib.hid (HZ1.out.below HB.out HZ1.out.lt)
    have q7 := (HB.out.cell (p := ⟨gA, oA, none⟩) (by have := HGA.out; have := HB1.out.size; show gA < _; omega)).trans q0
    by_cases hlt : (k : Int) < (m : Int)
    · obtain ⟨q, hq⟩ : ∃ q, ws[k]? = some q := ⟨ws[k]'(by have := HM.out; omega), List.getElem?_eq_getElem _⟩
      obtain ⟨gB, oB, rfl, hgl, hc⟩ := (HWT.out _ (HB1.out.trans (HB.out.mono HB1.out.size))) (by intro e; rw [e] at hq; simp at hq)
      have hc := hc k q hq
      have hqs := HQS.out q (List.mem_of_getElem? hq)
      have HDR := Lib.hid (numsS_drop ws k q hq)
      have hN := fun wa => lNumber_any q wa (by unfold maxLen; omega)
      obtain ⟨z, hz⟩ : ∃ z, z = numS q.data.toList := ⟨_, rfl⟩
      rw [← hz] at hN
      have HZZ := Lib.hid hz
      clear hz hq hqs hgl
      obtain ⟨z1, z2⟩ := z
      cases z2
      · go_upto_region 11 with (go_at_call 9; refine (hN _).mono ?_; rintro e w2 ⟨rfl, rfl⟩)
        obtain ⟨d0, d1, d2, d3, d4, d5, d6, d7, d8, d9, d10, d11⟩ := cellsZ HN7.out
        have HZX := Lib.hid HZ7.out
        have HBX := Lib.hid HB.out
        go_upto_region 11 with fail
        repeat (first | (refine wpList_storeG 42 (cs := zsA) (by kernel_rfl) rfl rfl rfl rfl (by simp [Value.oneCell', zsA]) HZX.out rfl ?_; intro wz hbez hotz hkz) | go_step)
        refine Mark.intro ?_
        have HBZ := Lib.hid (hbez w (by have := HG.out; omega) (HB1.out.trans (HBX.out.mono HB1.out.size)))
        have HKZ := Lib.hid hkz
        clear hbez hotz hkz
        go_wp2_with fail
        refine bodyPost_ret (ret_cell2 rfl rfl HKZ.out Try.underlying42 rfl (by kernel_rfl)) rfl ⟨HBZ.out, ?_⟩
        rw [HST.out.trans (show _ = none from by rw [HSP.out, HDR.out, ← HZZ.out]; rfl)]
        exact ⟨zsA, rfl, rfl, by simp [Value.oneCell', zsA]⟩
      · go_wp2_with (first | (go_at_call 9; refine (hN _).mono ?_; rintro e w2 ⟨rfl, rfl⟩) | (at_builtin; refine wpList_append_own _ rfl _ _ 22 rfl w1.heap.size 3 ii (.int .i64 0) 1 8 Try.underlying22 hii hi0 hi1 hi2 rfl (by decide) _ _ _ rfl (HO.out.alloc _) ⟨_, 0, none⟩ 1 1 [.int .i64 z1] rfl rfl (cell_one_new _ _ _) (one_cell_int _ _) (by simp only [maxLen]; omega) (by omega) (by have := HB.out.size; simp; omega) ?_; intro v1 w2 hown1 hg1 _hne; have hbe1 := push_below HB.out HB.out.size HO.out _ hg1))
        go_roundw
        case rel =>
          refine Lib.hid ⟨k + 1, xs ++ [z1], by omega, by go_num, by simp [hx], by simpa using hown1, hbe1, ?_, _, rfl⟩
          rw [HSP.out, HDR.out, ← HZZ.out]
          simp
          rfl
        case measure => simp [intOf]; omega
    · have e : k = m := by omega
      subst e
      have HNS : Hid (numsS ws = some xs) := by
        show _ = _
        rw [HSP.out, show ws.drop k = [] from List.drop_of_length_le (by have := HM.out; omega)]
        simp [numsS]
      clear hlt
      rcases xs with _ | ⟨x, _ | ⟨y, r⟩⟩
      · simp only [List.length_nil] at hx
        subst hx
        obtain ⟨d0, d1, d2, d3, d4, d5, d6, d7, d8, d9, d10, d11⟩ := cellsZ HN7.out
        have HZX := Lib.hid HZ7.out
        have HBX := Lib.hid HB.out
        go_upto_region 22 with fail
        repeat (first | (refine wpList_storeG 42 (cs := zsA) (by kernel_rfl) rfl rfl rfl rfl (by simp [Value.oneCell', zsA]) HZX.out rfl ?_; intro wz hbez hotz hkz) | go_step)
        refine Mark.intro ?_
        have HBZ := Lib.hid (hbez w (by have := HG.out; omega) (HB1.out.trans (HBX.out.mono HB1.out.size)))
        have HKZ := Lib.hid hkz
        clear hbez hotz hkz
        go_wp2_with fail
        refine bodyPost_ret (ret_cell2 rfl rfl HKZ.out Try.underlying42 rfl (by kernel_rfl)) rfl ⟨HBZ.out, ?_⟩
        rw [HST.out.trans (show _ = none from by rw [HNS.out]; rfl)]
        exact ⟨zsA, rfl, rfl, by simp [Value.oneCell', zsA]⟩
      · simp only [List.length_cons, List.length_nil, Nat.zero_add] at hx
        subst hx
        obtain ⟨gl, cl, e4, cx⟩ := own1 HO.out
        injection e4 with e4 e5 e6
        subst e4 e6
        clear e5
        have HZX := Lib.hid HZ7.out
        have HBX := Lib.hid HB.out
        go_upto_region 15 with fail
        repeat (first | (refine wpList_storeG 42 (cs := sc ⟨2, mg0 0, x, 0⟩ (.slice none 0 0)) (by kernel_rfl) rfl rfl rfl rfl (by simp [Value.oneCell', sc, mg0]) HZX.out rfl ?_; intro wz hbez hotz hkz) | go_step)
        refine Mark.intro ?_
        have HBZ := Lib.hid (hbez w (by have := HG.out; omega) (HB1.out.trans (HBX.out.mono HB1.out.size)))
        have HKZ := Lib.hid hkz
        clear hbez hotz hkz
        go_wp2_with fail
        refine bodyPost_ret (ret_cell2 rfl rfl HKZ.out Try.underlying42 rfl (by kernel_rfl)) rfl ⟨HBZ.out, ?_⟩
        rw [HST.out.trans (show _ = some ⟨2, mg0 0, x, 0⟩ from by rw [HNS.out]; rfl)]
        exact ⟨.slice none 0 0, rfl, ⟨Its.nil _ _, rfl, by simp [mg0]⟩, fun b hb => by simp [Value.ownBlock] at hb⟩
      · simp only [List.length_cons] at hx
        subst hx
        have hl1 : ¬ ((r.length : Int) + 1 + 1 = 1) := by omega
        have hl2 : ¬ (r.length + 1 + 1 = 1) := by omega
        obtain ⟨d0, d1, d2, d3, d4, d5, d6, d7, d8, d9, d10, d11⟩ := cellsZ HN7.out
        have HZX := Lib.hid HZ7.out
        have HBX := Lib.hid HB.out
        go_upto_region 22 with fail
        repeat (first | (refine wpList_storeG 42 (cs := zsA) (by kernel_rfl) rfl rfl rfl rfl (by simp [Value.oneCell', zsA]) HZX.out rfl ?_; intro wz hbez hotz hkz) | go_step)
        refine Mark.intro ?_
        have HBZ := Lib.hid (hbez w (by have := HG.out; omega) (HB1.out.trans (HBX.out.mono HB1.out.size)))
        have HKZ := Lib.hid hkz
        clear hbez hotz hkz
        go_wp2_with fail
        refine bodyPost_ret (ret_cell2 rfl rfl HKZ.out Try.underlying42 rfl (by kernel_rfl)) rfl ⟨HBZ.out, ?_⟩
        rw [HST.out.trans (show _ = none from by rw [HNS.out]; rcases r with _ | ⟨z, r⟩ <;> rfl)]
        exact ⟨zsA, rfl, rfl, by simp [Value.oneCell', zsA]⟩
set_option maxHeartbeats 16000000 in
theorem lStep_fuse (ws : List ByteArray) (Ad : Option Addr) (c : Nat) (w : World) (hnc : ws.length + 1 ≤ c) (hL : ws.length ≤ 1001) (hqs : ∀ x ∈ ws, x.size ≤ 1000) (hs : Ws w Ad (⟨fuseL.toArray⟩ :: ws)) :
    Calls Try.prog 18 #[.slice Ad (ws.length + 1) c] w (StepPost w ⟨fuseL.toArray⟩ ws) := by
  have HST : Hid (stepS ⟨fuseL.toArray⟩ ws = (numsS ws).bind (actS ⟨fuseL.toArray⟩)) := by
    show _ = _
    unfold stepS
    rw [show kindS ⟨fuseL.toArray⟩ = 0 from by decide]
    rfl
  obtain ⟨m, hm⟩ : ∃ m, m = ws.length := ⟨_, rfl⟩
  rw [← hm] at hnc hL ⊢
  obtain ⟨gA, oA, rfl, hgA, hcA⟩ := hs.at_
  have k0 : w.cell? ⟨gA, oA, none⟩ = some (.string ⟨fuseL.toArray⟩) := hcA 0 _ rfl
  obtain ⟨g, hg⟩ : ∃ g, g = w.heap.size := ⟨_, rfl⟩
  obtain ⟨W0, hW0⟩ : ∃ W, W = w.alloc (.cells zsA 42) := ⟨_, rfl⟩
  have hb0 : Below w.heap.size w W0 := by rw [hW0]; exact (Below.refl _ _).alloc (Nat.le_refl _) _
  have hz0 : Blk W0 g 42 zsA := by rw [hW0, hg]; exact Blk.new _ _ _
  obtain ⟨gN, hgN⟩ : ∃ g, g = W0.heap.size := ⟨_, rfl⟩
  have HWD : Hid (∀ (A2 : Option Addr), A2 = (if c = 1 then some ⟨gA, oA, none⟩ else some ⟨gA, oA + 1, none⟩) → ∀ wa : World, Below w.heap.size w wa → Ws wa A2 ws) := Lib.hid (fun A2 hA2 wa hba => by
    refine (hs.below hba).drop (n := 1) (by simp) (fun hne => ?_)
    rw [hA2, if_neg]
    intro e
    apply hne
    exact List.eq_nil_of_length_eq_zero (by omega))
  have HG := Lib.hid hg
  have HGN := Lib.hid hgN
  have HW0 := Lib.hid hW0
  have HZ0 := Lib.hid hz0
  have HB0 := Lib.hid hb0
  have HM := Lib.hid hm
  have HGA := Lib.hid hgA
  have HQS := Lib.hid hqs
  have HK0 := Lib.hid k0
  clear hg hgN hW0 hz0 hb0 hm hgA hs hcA hqs
  have h0m : 0 < m + 1 := by omega
  have h0c : 0 < c := by omega
  have h1n : (1 : Int) ≤ (m : Int) + 1 := by omega
  have h1c : (1 : Int) ≤ (c : Int) := by omega
  go_enter Try.func18, Try.ntmps18
  go_upto_region 1 with fail
  rw [show w.alloc (.cells #[.int .i64 0, .int .i64 0, .string ⟨#[]⟩, .string ⟨#[]⟩, .string ⟨#[]⟩, .int .i64 0, .int .i64 0, .int .i64 0, .int .i64 0, .slice none 0 0, .int .i64 0, .int .i64 0] 42) = W0 from HW0.out.symm, ← HG.out]
  repeat (first | (refine wpList_storeG 42 (cs := zsA) (by kernel_rfl) rfl rfl rfl rfl (by simp [Value.oneCell', zsA]) (Blk.new W0 42 zsA) rfl ?_; intro w1 hbe1 hot1 hk1) | go_step)
  refine Mark.intro ?_
  rw [← HGN.out] at hk1 ⊢
  have hb1 : Below W0.heap.size W0 w1 := hbe1 W0 (Nat.le_refl _) ((Below.refl _ _).alloc (Nat.le_refl _) _)
  have HB1 := Lib.hid (HB0.out.trans (hb1.mono HB0.out.size))
  have HZ1 := Lib.hid (HZ0.out.below hb1 HZ0.out.lt)
  have HN1 := Lib.hid hk1
  have q0 := (HB1.out.cell (p := ⟨gA, oA, none⟩) HGA.out).trans k0
  clear hbe1 hot1 hk1 hb1 k0
  obtain ⟨ii, hii, hi0, hi1, hi2⟩ := info_parts int_infoD
  have hmx : 1002 ≤ maxLen := by decide
  go_upto_block 0 with fail
  obtain ⟨A2, hA2⟩ : ∃ A2 : Option Addr, A2 = (if c = 1 then some ⟨gA, oA, none⟩ else some ⟨gA, oA + 1, none⟩) := ⟨_, rfl⟩
  rw [← hA2]
  have HWT := Lib.hid (HWD.out A2 hA2)
  clear hA2
  go_wp2_with fail
  go_loopw [5, 47] (fun l i wr => Hid (∃ (k : Nat) (xs : List Int), k ≤ m ∧ i = .int .i64 k ∧ xs.length = k ∧ wr.ownsRow w1.heap.size 3 1 l k (xs.map (Value.int .i64)) ∧ Below w1.heap.size w1 wr ∧ numsS ws = (numsS (ws.drop k)).map (xs ++ ·) ∧ ∃ w7, w7 = wr)) (fun _ i _ => m - (intOf i).toNat)
  case atStart => exact Lib.hid ⟨0, [], by omega, rfl, rfl, World.ownsRow_nil _ _ _ _, Below.refl _ _, by simp, _, rfl⟩
  case round =>
    obtain ⟨k, xs, hk, rfl, hx, ho, hb, hsp, w7, hw7⟩ := hrel.out
    subst hw7
    clear hrel
    obtain ⟨A4, c4, rfl, -, -⟩ := own_slice ho
    have HO := Lib.hid ho
    have HB := Lib.hid hb
    have HSP := Lib.hid hsp
    clear ho hb hsp
    have HN7 := Lib.hid (HN1.out.below HB.out HN1.out.lt)
    have HZ7 := Lib.hid (HZ1.out.below HB.out HZ1.out.lt)
    have q7 := (HB.out.cell (p := ⟨gA, oA, none⟩) (by have := HGA.out; have := HB1.out.size; show gA < _; omega)).trans q0
    by_cases hlt : (k : Int) < (m : Int)
    · obtain ⟨q, hq⟩ : ∃ q, ws[k]? = some q := ⟨ws[k]'(by have := HM.out; omega), List.getElem?_eq_getElem _⟩
      obtain ⟨gB, oB, rfl, hgl, hc⟩ := (HWT.out _ (HB1.out.trans (HB.out.mono HB1.out.size))) (by intro e; rw [e] at hq; simp at hq)
      have hc := hc k q hq
      have hqs := HQS.out q (List.mem_of_getElem? hq)
      have HDR := Lib.hid (numsS_drop ws k q hq)
      have hN := fun wa => lNumber_any q wa (by unfold maxLen; omega)
      obtain ⟨z, hz⟩ : ∃ z, z = numS q.data.toList := ⟨_, rfl⟩
      rw [← hz] at hN
      have HZZ := Lib.hid hz
      clear hz hq hqs hgl
      obtain ⟨z1, z2⟩ := z
      cases z2
      · go_upto_region 11 with (go_at_call 9; refine (hN _).mono ?_; rintro e w2 ⟨rfl, rfl⟩)
        obtain ⟨d0, d1, d2, d3, d4, d5, d6, d7, d8, d9, d10, d11⟩ := cellsZ HN7.out
        have HZX := Lib.hid HZ7.out
        have HBX := Lib.hid HB.out
        go_upto_region 11 with fail
        repeat (first | (refine wpList_storeG 42 (cs := zsA) (by kernel_rfl) rfl rfl rfl rfl (by simp [Value.oneCell', zsA]) HZX.out rfl ?_; intro wz hbez hotz hkz) | go_step)
        refine Mark.intro ?_
        have HBZ := Lib.hid (hbez w (by have := HG.out; omega) (HB1.out.trans (HBX.out.mono HB1.out.size)))
        have HKZ := Lib.hid hkz
        clear hbez hotz hkz
        go_wp2_with fail
        refine bodyPost_ret (ret_cell2 rfl rfl HKZ.out Try.underlying42 rfl (by kernel_rfl)) rfl ⟨HBZ.out, ?_⟩
        rw [HST.out.trans (show _ = none from by rw [HSP.out, HDR.out, ← HZZ.out]; rfl)]
        exact ⟨zsA, rfl, rfl, by simp [Value.oneCell', zsA]⟩
      · go_wp2_with (first | (go_at_call 9; refine (hN _).mono ?_; rintro e w2 ⟨rfl, rfl⟩) | (at_builtin; refine wpList_append_own _ rfl _ _ 22 rfl w1.heap.size 3 ii (.int .i64 0) 1 8 Try.underlying22 hii hi0 hi1 hi2 rfl (by decide) _ _ _ rfl (HO.out.alloc _) ⟨_, 0, none⟩ 1 1 [.int .i64 z1] rfl rfl (cell_one_new _ _ _) (one_cell_int _ _) (by simp only [maxLen]; omega) (by omega) (by have := HB.out.size; simp; omega) ?_; intro v1 w2 hown1 hg1 _hne; have hbe1 := push_below HB.out HB.out.size HO.out _ hg1))
        go_roundw
        case rel =>
          refine Lib.hid ⟨k + 1, xs ++ [z1], by omega, by go_num, by simp [hx], by simpa using hown1, hbe1, ?_, _, rfl⟩
          rw [HSP.out, HDR.out, ← HZZ.out]
          simp
          rfl
        case measure => simp [intOf]; omega
    · have e : k = m := by omega
      subst e
      have HNS : Hid (numsS ws = some xs) := by
        show _ = _
        rw [HSP.out, show ws.drop k = [] from List.drop_of_length_le (by have := HM.out; omega)]
        simp [numsS]
      clear hlt
      rcases xs with _ | ⟨x, _ | ⟨y, r⟩⟩
      · simp only [List.length_nil] at hx
        subst hx
        obtain ⟨d0, d1, d2, d3, d4, d5, d6, d7, d8, d9, d10, d11⟩ := cellsZ HN7.out
        have HZX := Lib.hid HZ7.out
        have HBX := Lib.hid HB.out
        go_upto_region 22 with fail
        repeat (first | (refine wpList_storeG 42 (cs := zsA) (by kernel_rfl) rfl rfl rfl rfl (by simp [Value.oneCell', zsA]) HZX.out rfl ?_; intro wz hbez hotz hkz) | go_step)
        refine Mark.intro ?_
        have HBZ := Lib.hid (hbez w (by have := HG.out; omega) (HB1.out.trans (HBX.out.mono HB1.out.size)))
        have HKZ := Lib.hid hkz
        clear hbez hotz hkz
        go_wp2_with fail
        refine bodyPost_ret (ret_cell2 rfl rfl HKZ.out Try.underlying42 rfl (by kernel_rfl)) rfl ⟨HBZ.out, ?_⟩
        rw [HST.out.trans (show _ = none from by rw [HNS.out]; rfl)]
        exact ⟨zsA, rfl, rfl, by simp [Value.oneCell', zsA]⟩
      · simp only [List.length_cons, List.length_nil, Nat.zero_add] at hx
        subst hx
        obtain ⟨gl, cl, e4, cx⟩ := own1 HO.out
        injection e4 with e4 e5 e6
        subst e4 e6
        clear e5
        have HZX := Lib.hid HZ7.out
        have HBX := Lib.hid HB.out
        go_upto_region 17 with fail
        repeat (first | (refine wpList_storeG 42 (cs := sc ⟨3, mg0 0, x, 0⟩ (.slice none 0 0)) (by kernel_rfl) rfl rfl rfl rfl (by simp [Value.oneCell', sc, mg0]) HZX.out rfl ?_; intro wz hbez hotz hkz) | go_step)
        refine Mark.intro ?_
        have HBZ := Lib.hid (hbez w (by have := HG.out; omega) (HB1.out.trans (HBX.out.mono HB1.out.size)))
        have HKZ := Lib.hid hkz
        clear hbez hotz hkz
        go_wp2_with fail
        refine bodyPost_ret (ret_cell2 rfl rfl HKZ.out Try.underlying42 rfl (by kernel_rfl)) rfl ⟨HBZ.out, ?_⟩
        rw [HST.out.trans (show _ = some ⟨3, mg0 0, x, 0⟩ from by rw [HNS.out]; rfl)]
        exact ⟨.slice none 0 0, rfl, ⟨Its.nil _ _, rfl, by simp [mg0]⟩, fun b hb => by simp [Value.ownBlock] at hb⟩
      · simp only [List.length_cons] at hx
        subst hx
        have hl1 : ¬ ((r.length : Int) + 1 + 1 = 1) := by omega
        have hl2 : ¬ (r.length + 1 + 1 = 1) := by omega
        obtain ⟨d0, d1, d2, d3, d4, d5, d6, d7, d8, d9, d10, d11⟩ := cellsZ HN7.out
        have HZX := Lib.hid HZ7.out
        have HBX := Lib.hid HB.out
        go_upto_region 22 with fail
        repeat (first | (refine wpList_storeG 42 (cs := zsA) (by kernel_rfl) rfl rfl rfl rfl (by simp [Value.oneCell', zsA]) HZX.out rfl ?_; intro wz hbez hotz hkz) | go_step)
        refine Mark.intro ?_
        have HBZ := Lib.hid (hbez w (by have := HG.out; omega) (HB1.out.trans (HBX.out.mono HB1.out.size)))
        have HKZ := Lib.hid hkz
        clear hbez hotz hkz
        go_wp2_with fail
        refine bodyPost_ret (ret_cell2 rfl rfl HKZ.out Try.underlying42 rfl (by kernel_rfl)) rfl ⟨HBZ.out, ?_⟩
        rw [HST.out.trans (show _ = none from by rw [HNS.out]; rcases r with _ | ⟨z, r⟩ <;> rfl)]
        exact ⟨zsA, rfl, rfl, by simp [Value.oneCell', zsA]⟩
set_option maxHeartbeats 16000000 in
theorem lStep_crash (ws : List ByteArray) (Ad : Option Addr) (c : Nat) (w : World) (hnc : ws.length + 1 ≤ c) (hL : ws.length ≤ 1001) (hqs : ∀ x ∈ ws, x.size ≤ 1000) (hs : Ws w Ad (⟨crashL.toArray⟩ :: ws)) :
    Calls Try.prog 18 #[.slice Ad (ws.length + 1) c] w (StepPost w ⟨crashL.toArray⟩ ws) := by
  have HST : Hid (stepS ⟨crashL.toArray⟩ ws = (numsS ws).bind (actS ⟨crashL.toArray⟩)) := by
    show _ = _
    unfold stepS
    rw [show kindS ⟨crashL.toArray⟩ = 0 from by decide]
    rfl
  obtain ⟨m, hm⟩ : ∃ m, m = ws.length := ⟨_, rfl⟩
  rw [← hm] at hnc hL ⊢
  obtain ⟨gA, oA, rfl, hgA, hcA⟩ := hs.at_
  have k0 : w.cell? ⟨gA, oA, none⟩ = some (.string ⟨crashL.toArray⟩) := hcA 0 _ rfl
  obtain ⟨g, hg⟩ : ∃ g, g = w.heap.size := ⟨_, rfl⟩
  obtain ⟨W0, hW0⟩ : ∃ W, W = w.alloc (.cells zsA 42) := ⟨_, rfl⟩
  have hb0 : Below w.heap.size w W0 := by rw [hW0]; exact (Below.refl _ _).alloc (Nat.le_refl _) _
  have hz0 : Blk W0 g 42 zsA := by rw [hW0, hg]; exact Blk.new _ _ _
  obtain ⟨gN, hgN⟩ : ∃ g, g = W0.heap.size := ⟨_, rfl⟩
  have HWD : Hid (∀ (A2 : Option Addr), A2 = (if c = 1 then some ⟨gA, oA, none⟩ else some ⟨gA, oA + 1, none⟩) → ∀ wa : World, Below w.heap.size w wa → Ws wa A2 ws) := Lib.hid (fun A2 hA2 wa hba => by
    refine (hs.below hba).drop (n := 1) (by simp) (fun hne => ?_)
    rw [hA2, if_neg]
    intro e
    apply hne
    exact List.eq_nil_of_length_eq_zero (by omega))
  have HG := Lib.hid hg
  have HGN := Lib.hid hgN
  have HW0 := Lib.hid hW0
  have HZ0 := Lib.hid hz0
  have HB0 := Lib.hid hb0
  have HM := Lib.hid hm
  have HGA := Lib.hid hgA
  have HQS := Lib.hid hqs
  have HK0 := Lib.hid k0
  clear hg hgN hW0 hz0 hb0 hm hgA hs hcA hqs
  have h0m : 0 < m + 1 := by omega
  have h0c : 0 < c := by omega
  have h1n : (1 : Int) ≤ (m : Int) + 1 := by omega
  have h1c : (1 : Int) ≤ (c : Int) := by omega
  go_enter Try.func18, Try.ntmps18
  go_upto_region 1 with fail
  rw [show w.alloc (.cells #[.int .i64 0, .int .i64 0, .string ⟨#[]⟩, .string ⟨#[]⟩, .string ⟨#[]⟩, .int .i64 0, .int .i64 0, .int .i64 0, .int .i64 0, .slice none 0 0, .int .i64 0, .int .i64 0] 42) = W0 from HW0.out.symm, ← HG.out]
  repeat (first | (refine wpList_storeG 42 (cs := zsA) (by kernel_rfl) rfl rfl rfl rfl (by simp [Value.oneCell', zsA]) (Blk.new W0 42 zsA) rfl ?_; intro w1 hbe1 hot1 hk1) | go_step)
  refine Mark.intro ?_
  rw [← HGN.out] at hk1 ⊢
  have hb1 : Below W0.heap.size W0 w1 := hbe1 W0 (Nat.le_refl _) ((Below.refl _ _).alloc (Nat.le_refl _) _)
  have HB1 := Lib.hid (HB0.out.trans (hb1.mono HB0.out.size))
  have HZ1 := Lib.hid (HZ0.out.below hb1 HZ0.out.lt)
  have HN1 := Lib.hid hk1
  have q0 := (HB1.out.cell (p := ⟨gA, oA, none⟩) HGA.out).trans k0
  clear hbe1 hot1 hk1 hb1 k0
  obtain ⟨ii, hii, hi0, hi1, hi2⟩ := info_parts int_infoD
  have hmx : 1002 ≤ maxLen := by decide
  go_upto_block 0 with fail
  obtain ⟨A2, hA2⟩ : ∃ A2 : Option Addr, A2 = (if c = 1 then some ⟨gA, oA, none⟩ else some ⟨gA, oA + 1, none⟩) := ⟨_, rfl⟩
  rw [← hA2]
  have HWT := Lib.hid (HWD.out A2 hA2)
  clear hA2
  go_wp2_with fail
  go_loopw [5, 47] (fun l i wr => Hid (∃ (k : Nat) (xs : List Int), k ≤ m ∧ i = .int .i64 k ∧ xs.length = k ∧ wr.ownsRow w1.heap.size 3 1 l k (xs.map (Value.int .i64)) ∧ Below w1.heap.size w1 wr ∧ numsS ws = (numsS (ws.drop k)).map (xs ++ ·) ∧ ∃ w7, w7 = wr)) (fun _ i _ => m - (intOf i).toNat)
  case atStart => exact Lib.hid ⟨0, [], by omega, rfl, rfl, World.ownsRow_nil _ _ _ _, Below.refl _ _, by simp, _, rfl⟩
  case round =>
    obtain ⟨k, xs, hk, rfl, hx, ho, hb, hsp, w7, hw7⟩ := hrel.out
    subst hw7
    clear hrel
    obtain ⟨A4, c4, rfl, -, -⟩ := own_slice ho
    have HO := Lib.hid ho
    have HB := Lib.hid hb
    have HSP := Lib.hid hsp
    clear ho hb hsp
    have HN7 := Lib.hid (HN1.out.below HB.out HN1.out.lt)
    have HZ7 := Lib.hid (HZ1.out.below HB.out HZ1.out.lt)
    have q7 := (HB.out.cell (p := ⟨gA, oA, none⟩) (by have := HGA.out; have := HB1.out.size; show gA < _; omega)).trans q0
    by_cases hlt : (k : Int) < (m : Int)
    · obtain ⟨q, hq⟩ : ∃ q, ws[k]? = some q := ⟨ws[k]'(by have := HM.out; omega), List.getElem?_eq_getElem _⟩
      obtain ⟨gB, oB, rfl, hgl, hc⟩ := (HWT.out _ (HB1.out.trans (HB.out.mono HB1.out.size))) (by intro e; rw [e] at hq; simp at hq)
      have hc := hc k q hq
      have hqs := HQS.out q (List.mem_of_getElem? hq)
      have HDR := Lib.hid (numsS_drop ws k q hq)
      have hN := fun wa => lNumber_any q wa (by unfold maxLen; omega)
      obtain ⟨z, hz⟩ : ∃ z, z = numS q.data.toList := ⟨_, rfl⟩
      rw [← hz] at hN
      have HZZ := Lib.hid hz
      clear hz hq hqs hgl
      obtain ⟨z1, z2⟩ := z
      cases z2
      · go_upto_region 11 with (go_at_call 9; refine (hN _).mono ?_; rintro e w2 ⟨rfl, rfl⟩)
        obtain ⟨d0, d1, d2, d3, d4, d5, d6, d7, d8, d9, d10, d11⟩ := cellsZ HN7.out
        have HZX := Lib.hid HZ7.out
        have HBX := Lib.hid HB.out
        go_upto_region 11 with fail
        repeat (first | (refine wpList_storeG 42 (cs := zsA) (by kernel_rfl) rfl rfl rfl rfl (by simp [Value.oneCell', zsA]) HZX.out rfl ?_; intro wz hbez hotz hkz) | go_step)
        refine Mark.intro ?_
        have HBZ := Lib.hid (hbez w (by have := HG.out; omega) (HB1.out.trans (HBX.out.mono HB1.out.size)))
        have HKZ := Lib.hid hkz
        clear hbez hotz hkz
        go_wp2_with fail
        refine bodyPost_ret (ret_cell2 rfl rfl HKZ.out Try.underlying42 rfl (by kernel_rfl)) rfl ⟨HBZ.out, ?_⟩
        rw [HST.out.trans (show _ = none from by rw [HSP.out, HDR.out, ← HZZ.out]; rfl)]
        exact ⟨zsA, rfl, rfl, by simp [Value.oneCell', zsA]⟩
      · go_wp2_with (first | (go_at_call 9; refine (hN _).mono ?_; rintro e w2 ⟨rfl, rfl⟩) | (at_builtin; refine wpList_append_own _ rfl _ _ 22 rfl w1.heap.size 3 ii (.int .i64 0) 1 8 Try.underlying22 hii hi0 hi1 hi2 rfl (by decide) _ _ _ rfl (HO.out.alloc _) ⟨_, 0, none⟩ 1 1 [.int .i64 z1] rfl rfl (cell_one_new _ _ _) (one_cell_int _ _) (by simp only [maxLen]; omega) (by omega) (by have := HB.out.size; simp; omega) ?_; intro v1 w2 hown1 hg1 _hne; have hbe1 := push_below HB.out HB.out.size HO.out _ hg1))
        go_roundw
        case rel =>
          refine Lib.hid ⟨k + 1, xs ++ [z1], by omega, by go_num, by simp [hx], by simpa using hown1, hbe1, ?_, _, rfl⟩
          rw [HSP.out, HDR.out, ← HZZ.out]
          simp
          rfl
        case measure => simp [intOf]; omega
    · have e : k = m := by omega
      subst e
      have HNS : Hid (numsS ws = some xs) := by
        show _ = _
        rw [HSP.out, show ws.drop k = [] from List.drop_of_length_le (by have := HM.out; omega)]
        simp [numsS]
      clear hlt
      rcases xs with _ | ⟨x, _ | ⟨y, _ | ⟨z, r⟩⟩⟩
      · simp only [List.length_nil] at hx
        subst hx
        obtain ⟨d0, d1, d2, d3, d4, d5, d6, d7, d8, d9, d10, d11⟩ := cellsZ HN7.out
        have HZX := Lib.hid HZ7.out
        have HBX := Lib.hid HB.out
        go_upto_region 22 with fail
        repeat (first | (refine wpList_storeG 42 (cs := zsA) (by kernel_rfl) rfl rfl rfl rfl (by simp [Value.oneCell', zsA]) HZX.out rfl ?_; intro wz hbez hotz hkz) | go_step)
        refine Mark.intro ?_
        have HBZ := Lib.hid (hbez w (by have := HG.out; omega) (HB1.out.trans (HBX.out.mono HB1.out.size)))
        have HKZ := Lib.hid hkz
        clear hbez hotz hkz
        go_wp2_with fail
        refine bodyPost_ret (ret_cell2 rfl rfl HKZ.out Try.underlying42 rfl (by kernel_rfl)) rfl ⟨HBZ.out, ?_⟩
        rw [HST.out.trans (show _ = none from by rw [HNS.out]; rfl)]
        exact ⟨zsA, rfl, rfl, by simp [Value.oneCell', zsA]⟩
      · simp only [List.length_cons, List.length_nil, Nat.zero_add] at hx
        subst hx
        obtain ⟨gl, cl, e4, cx⟩ := own1 HO.out
        injection e4 with e4 e5 e6
        subst e4 e6
        clear e5
        have HZX := Lib.hid HZ7.out
        have HBX := Lib.hid HB.out
        go_upto_region 19 with fail
        repeat (first | (refine wpList_storeG 42 (cs := sc ⟨4, mg0 0, x, -1⟩ (.slice none 0 0)) (by kernel_rfl) rfl rfl rfl rfl (by simp [Value.oneCell', sc, mg0]) HZX.out rfl ?_; intro wz hbez hotz hkz) | go_step)
        refine Mark.intro ?_
        have HBZ := Lib.hid (hbez w (by have := HG.out; omega) (HB1.out.trans (HBX.out.mono HB1.out.size)))
        have HKZ := Lib.hid hkz
        clear hbez hotz hkz
        go_wp2_with fail
        refine bodyPost_ret (ret_cell2 rfl rfl HKZ.out Try.underlying42 rfl (by kernel_rfl)) rfl ⟨HBZ.out, ?_⟩
        rw [HST.out.trans (show _ = some ⟨4, mg0 0, x, -1⟩ from by rw [HNS.out]; rfl)]
        exact ⟨.slice none 0 0, rfl, ⟨Its.nil _ _, rfl, by simp [mg0]⟩, fun b hb => by simp [Value.ownBlock] at hb⟩
      · simp only [List.length_cons, List.length_nil, Nat.zero_add] at hx
        subst hx
        obtain ⟨gl, cl, e4, hBl, hll, cx, cy⟩ := own2 HO.out
        injection e4 with e4 e5 e6
        subst e4 e6
        clear e5
        go_upto_region 21 with fail
        have HGL := Lib.hid (show gl < w7.drew.heap.size ∧ gl ≠ g from ⟨hll, by have := HZ1.out.lt; omega⟩)
        have HS := (show w7.drew.cell? ⟨gl, 0, none⟩ = some (.int .i64 x) ∧ w7.drew.cell? ⟨gl, 1, none⟩ = some (.int .i64 y) ∧ Below w.heap.size w w7.drew ∧ ∃ zs, Blk w7.drew g 42 zs ∧ zs.size = 12 from ⟨cx, cy, (HB1.out.trans (HB.out.mono HB1.out.size)).drew, zsA, HZ7.out, rfl⟩)
        clear cx cy hBl hll
        refine wp_region_noPanic ?_
        refine wp_region_held_drew (S := fun wa => wa.cell? ⟨gl, 0, none⟩ = some (.int .i64 x) ∧ wa.cell? ⟨gl, 1, none⟩ = some (.int .i64 y) ∧ Below w.heap.size w wa ∧ ∃ zs, Blk wa g 42 zs ∧ zs.size = 12) (by kernel_rfl) HS (fun hHeld => ?_)
        refine wpAnyH_take (i := 0) (oi := ?oir1) (v := ?vr1) ?hir1 (by kernel_rfl) (by kernel_rfl) (by kernel_rfl) (fun _ _ _ h => h) ?hyr1 HS ?restr1
        case hir1 => (simp only [List.getElem?_toArray, List.getElem?_cons_zero]; try rfl)
        case hyr1 => (refine Or.inl ⟨by rfl, ?_⟩; intro w hSw; go_simp; (try with_reducible rfl))
        try simp only [Act.put, List.setIfInBounds_toArray, List.set_cons_zero, List.set_cons_succ]
        refine wpAnyH_take (i := 1) (oi := ?oir2) (v := ?vr2) ?hir2 (by kernel_rfl) (by kernel_rfl) (by kernel_rfl) (fun _ _ _ h => h) ?hyr2 HS ?restr2
        case hir2 => (simp only [List.getElem?_toArray, List.getElem?_cons_succ, List.getElem?_cons_zero]; try rfl)
        case hyr2 => (refine Or.inl ⟨by rfl, ?_⟩; intro w hSw; go_simp; (try with_reducible rfl))
        try simp only [Act.put, List.setIfInBounds_toArray, List.set_cons_zero, List.set_cons_succ]
        refine wpAnyH_take (i := 2) (oi := ?oir3) (v := ?vr3) ?hir3 (by kernel_rfl) (by kernel_rfl) (by kernel_rfl) (fun _ _ _ h => h) ?hyr3 HS ?restr3
        case hir3 => (simp only [List.getElem?_toArray, List.getElem?_cons_succ, List.getElem?_cons_zero]; try rfl)
        case hyr3 => (refine Or.inl ⟨by rfl, ?_⟩; intro w hSw; have q := hSw.1; go_simp; (try with_reducible rfl))
        try simp only [Act.put, List.setIfInBounds_toArray, List.set_cons_zero, List.set_cons_succ]
        refine wpAnyH_take (i := 3) (oi := ?oir4) (v := ?vr4) ?hir4 (by kernel_rfl) (by kernel_rfl) (by kernel_rfl) (fun _ _ _ h => h) ?hyr4 HS ?restr4
        case hir4 => (simp only [List.getElem?_toArray, List.getElem?_cons_succ, List.getElem?_cons_zero]; try rfl)
        case hyr4 => (refine Or.inl ⟨by rfl, ?_⟩; intro w hSw; go_simp; (try with_reducible rfl))
        try simp only [Act.put, List.setIfInBounds_toArray, List.set_cons_zero, List.set_cons_succ]
        refine wpAnyH_take (i := 4) (oi := ?oir5) (v := ?vr5) ?hir5 (by kernel_rfl) (by kernel_rfl) (by kernel_rfl) (fun _ _ _ h => h) ?hyr5 HS ?restr5
        case hir5 => (simp only [List.getElem?_toArray, List.getElem?_cons_succ, List.getElem?_cons_zero]; try rfl)
        case hyr5 => (refine Or.inl ⟨by rfl, ?_⟩; intro w hSw; go_simp; (try with_reducible rfl))
        try simp only [Act.put, List.setIfInBounds_toArray, List.set_cons_zero, List.set_cons_succ]
        refine wpAnyH_take (i := 5) (oi := ?oir6) (v := ?vr6) ?hir6 (by kernel_rfl) (by kernel_rfl) (by kernel_rfl) (fun _ _ _ h => h) ?hyr6 HS ?restr6
        case hir6 => (simp only [List.getElem?_toArray, List.getElem?_cons_succ, List.getElem?_cons_zero]; try rfl)
        case hyr6 => (refine Or.inl ⟨by rfl, ?_⟩; intro w hSw; have q := hSw.2.1; go_simp; (try with_reducible rfl))
        try simp only [Act.put, List.setIfInBounds_toArray, List.set_cons_zero, List.set_cons_succ]
        refine wpAnyH_take (i := 6) (oi := ?oir7) (v := ?vr7) ?hir7 (by kernel_rfl) (by kernel_rfl) (by kernel_rfl) (fun _ _ _ h => h) ?hyr7 HS ?restr7
        case hir7 => (simp only [List.getElem?_toArray, List.getElem?_cons_succ, List.getElem?_cons_zero]; try rfl)
        case hyr7 => (refine Or.inl ⟨by rfl, ?_⟩; intro w hSw; go_simp; (try with_reducible rfl))
        try simp only [Act.put, List.setIfInBounds_toArray, List.set_cons_zero, List.set_cons_succ]
        refine wpAnyH_ready (rs := [7]) (by kernel_rfl) (by simp) ?_
        refine AllReadyH.cons (o := ?oir8) ?hir8 (fun K hK => ?str8) AllReadyH.nil
        case hir8 => (simp only [List.getElem?_toArray, List.getElem?_cons_succ, List.getElem?_cons_zero]; try rfl)
        refine storeG 42 (cs := sc ⟨4, mg0 0, x, y⟩ (.slice none 0 0)) (by kernel_rfl) rfl rfl (by simp [Act.eval]; done) (by simp [Act.eval, sc, mg0, nob]; done) (by simp [Value.oneCell', sc, mg0]) HS.2.2.2.choose_spec.1 HS.2.2.2.choose_spec.2 ?_
        intro w6 hbe hot hzz
        try dsimp only
        have HS6 := (show w6.cell? ⟨gl, 0, none⟩ = some (.int .i64 x) ∧ w6.cell? ⟨gl, 1, none⟩ = some (.int .i64 y) ∧ Below w.heap.size w w6 ∧ ∃ zs, Blk w6 g 42 zs ∧ zs.size = 12 from ⟨(keep_cell (hot gl HGL.out.1 HGL.out.2)).trans HS.1, (keep_cell (hot gl HGL.out.1 HGL.out.2)).trans HS.2.1, hbe w (by have := HG.out; omega) HS.2.2.1, _, hzz, rfl⟩)
        refine hK.out _ _ HS6 (fun _ => ?rsr8)
        clear hK K
        try simp only [Act.put]
        refine wpAnyH_take (i := 8) (oi := ?oir9) (v := ?vr9) ?hir9 (by kernel_rfl) (by kernel_rfl) (by kernel_rfl) (fun _ _ _ h => h) ?hyr9 HS6 ?restr9
        case hir9 => (simp only [List.getElem?_toArray, List.getElem?_cons_succ, List.getElem?_cons_zero]; try rfl)
        case hyr9 => (refine Or.inl ⟨by rfl, ?_⟩; intro w hSw; go_simp; (try with_reducible rfl))
        try simp only [Act.put, List.setIfInBounds_toArray, List.set_cons_zero, List.set_cons_succ]
        refine wpAnyH_done (by kernel_rfl) ?_ _
        refine NoPanic.normal ?_
        have HBZ := Lib.hid HS6.2.2.1
        go_wp2_with fail
        refine bodyPost_ret (ret_cell2 rfl rfl hzz Try.underlying42 rfl (by kernel_rfl)) rfl ⟨HBZ.out, ?_⟩
        rw [HST.out.trans (show _ = some ⟨4, mg0 0, x, y⟩ from by rw [HNS.out]; rfl)]
        exact ⟨.slice none 0 0, rfl, ⟨Its.nil _ _, rfl, by simp [mg0]⟩, fun b hb => by simp [Value.ownBlock] at hb⟩
      · simp only [List.length_cons] at hx
        subst hx
        have hl0 : ¬ ((r.length : Int) + 1 + 1 + 1 = 1) := by omega
        have hl1 : ¬ ((r.length : Int) + 1 + 1 + 1 = 2) := by omega
        have hl2 : ¬ (r.length + 1 + 1 + 1 = 1) := by omega
        have hl3 : ¬ (r.length + 1 + 1 + 1 = 2) := by omega
        obtain ⟨d0, d1, d2, d3, d4, d5, d6, d7, d8, d9, d10, d11⟩ := cellsZ HN7.out
        have HZX := Lib.hid HZ7.out
        have HBX := Lib.hid HB.out
        go_upto_region 22 with fail
        repeat (first | (refine wpList_storeG 42 (cs := zsA) (by kernel_rfl) rfl rfl rfl rfl (by simp [Value.oneCell', zsA]) HZX.out rfl ?_; intro wz hbez hotz hkz) | go_step)
        refine Mark.intro ?_
        have HBZ := Lib.hid (hbez w (by have := HG.out; omega) (HB1.out.trans (HBX.out.mono HB1.out.size)))
        have HKZ := Lib.hid hkz
        clear hbez hotz hkz
        go_wp2_with fail
        refine bodyPost_ret (ret_cell2 rfl rfl HKZ.out Try.underlying42 rfl (by kernel_rfl)) rfl ⟨HBZ.out, ?_⟩
        rw [HST.out.trans (show _ = none from by rw [HNS.out]; rfl)]
        exact ⟨zsA, rfl, rfl, by simp [Value.oneCell', zsA]⟩
end Go.Proofs.Ytfbedlhigggggaa.Sp
