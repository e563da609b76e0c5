/- Contracts of script.Number, and of the statement's digits. -/
import Derived.Test.YtfbedlhigggggaaBase
import Derived.Test.YtfbedlhigggggaaCeA
import Derived.Test.YtfbedlhigggggaaProg
namespace Go.Proofs.Ytfbedlhigggggaa
open Go.ChangeShapes Go.WideShapes Go.ChangeAt Go.RowKit
set_option linter.unusedVariables false
def digB (c : UInt8) : Bool := decide (48 ≤ c.toNat) && decide (c.toNat ≤ 57)
def numA : List UInt8 → Int → Option Int
  | [], a => some a
  | c :: r, a => if digB c = true then numA r (10 * a + ((c.toNat : Int) - 48)) else none
def numS (l : List UInt8) : Int × Bool := if l.length < 1 ∨ 9 < l.length ∨ (l.head? = some 48 ∧ 1 < l.length) then (0, false) else match numA l 0 with
  | some v => (v, true)
  | none => (0, false)
def p10 : Nat → Int
  | 0 => 1
  | k + 1 => 10 * p10 k
theorem p10_le (k : Nat) (h : k ≤ 9) : 1 ≤ p10 k ∧ p10 k ≤ 1000000000 := by
  obtain h | h | h | h | h | h | h | h | h | h : k = 0 ∨ k = 1 ∨ k = 2 ∨ k = 3 ∨ k = 4 ∨ k = 5 ∨ k = 6 ∨ k = 7 ∨ k = 8 ∨ k = 9 := by omega
  all_goals
    subst h
    decide
theorem numA_drop (s : ByteArray) (k : Nat) (a : Int) (h : k < s.size) : numA (s.data.toList.drop k) a = if digB s[k] = true then numA (s.data.toList.drop (k + 1)) (10 * a + ((s[k].toNat : Int) - 48)) else none := by
  have e : s.data.toList.drop k = s[k] :: s.data.toList.drop (k + 1) := by
    rw [List.drop_eq_getElem_cons (by simpa using h)]; rfl
  rw [e]; rfl
theorem numA_bad (c : UInt8) (hc : digB c = false) : ∀ (l : List UInt8) (a : Int), numA (l ++ [c]) a = none
  | [], a => by simp [numA, hc]
  | d :: l, a => by
    rw [List.cons_append, numA]
    split
    · exact numA_bad c hc l _
    · rfl
theorem numA_app : ∀ (l m : List UInt8) (a b : Int), numA l a = some b → numA (l ++ m) a = numA m b
  | [], m, a, b, h => by simp only [numA, Option.some.injEq] at h; subst h; rfl
  | d :: l, m, a, b, h => by
    rw [List.cons_append, numA]
    rw [numA] at h
    split at h
    · rename_i hd
      rw [if_pos hd]
      exact numA_app l m _ b h
    · cases h
theorem numS_bad {l : List UInt8} (h : l.length < 1 ∨ 9 < l.length ∨ (l.head? = some 48 ∧ 1 < l.length) ∨ numA l 0 = none) : numS l = (0, false) := by
  unfold numS
  split
  · rfl
  · rename_i hn
    have : numA l 0 = none := by
      rcases h with h | h | h | h
      · exact absurd (.inl h) hn
      · exact absurd (.inr (.inl h)) hn
      · exact absurd (.inr (.inr h)) hn
      · exact h
    rw [this]
/-! The digits of a number. -/
def digL (n : Nat) : List UInt8 := if h : n < 10 then [UInt8.ofNat (48 + n)] else digL (n / 10) ++ [UInt8.ofNat (48 + n % 10)]
termination_by n
decreasing_by omega
theorem digU (r : Nat) (h : r < 10) : digB (UInt8.ofNat (48 + r)) = true ∧ ((UInt8.ofNat (48 + r)).toNat : Int) - 48 = r := by
  have e : (UInt8.ofNat (48 + r)).toNat = 48 + r := by rw [UInt8.toNat_ofNat']; omega
  unfold digB
  rw [e]
  exact ⟨by simp; omega, by omega⟩
theorem digL_num : ∀ n : Nat, numA (digL n) 0 = some (n : Int)
  | n => by
    unfold digL
    split
    · rename_i h
      obtain ⟨h1, h2⟩ := digU n h
      rw [numA, if_pos h1, h2, numA]
      congr 1
      omega
    · rename_i h
      obtain ⟨h1, h2⟩ := digU (n % 10) (by omega)
      have ih := digL_num (n / 10)
      rw [numA_app _ _ _ _ ih]
      rw [numA, if_pos h1, h2, numA]
      congr 1
      omega
termination_by n => n
decreasing_by omega
theorem digL_len : ∀ (k n : Nat), n < 10 ^ (k + 1) → 1 ≤ (digL n).length ∧ (digL n).length ≤ k + 1
  | 0, n, h => by
    unfold digL
    rw [dif_pos (by simpa using h)]
    simp
  | k + 1, n, h => by
    unfold digL
    split
    · simp
    · have := digL_len k (n / 10) (by rw [Nat.pow_succ] at h; omega)
      simp only [List.length_append, List.length_singleton]
      omega
theorem digL_head : ∀ n : Nat, (digL n).head? = some 48 → n = 0
  | n => by
    unfold digL
    split
    · rename_i h
      intro he
      simp only [List.head?_cons, Option.some.injEq] at he
      have := congrArg UInt8.toNat he
      rw [UInt8.toNat_ofNat'] at this
      have e2 : (48 : UInt8).toNat = 48 := rfl
      omega
    · rename_i h
      intro he
      have hl : digL (n / 10) ≠ [] := by
        intro e0
        have h3 := digL_num (n / 10)
        rw [e0] at h3
        simp only [numA, Option.some.injEq] at h3
        omega
      have he2 : (digL (n / 10)).head? = some 48 := by
        cases hd : digL (n / 10) with
        | nil => exact absurd hd hl
        | cons c r =>
          rw [hd] at he
          simpa using he
      have := digL_head (n / 10) he2
      omega
termination_by n => n
decreasing_by omega
theorem digL_S (n : Nat) (h : n < 1000000000) : numS (digL n) = ((n : Int), true) := by
  have h1 := digL_len 8 n h
  unfold numS
  rw [if_neg, digL_num]
  rintro (h2 | h2 | ⟨h2, h3⟩)
  · omega
  · omega
  · have := digL_head n h2
    subst this
    have : (digL 0).length = 1 := by unfold digL; simp
    omega
set_option maxRecDepth 100000
set_option maxHeartbeats 4000000 in
theorem Number_any (s : ByteArray) (w : World) (hs : s.size ≤ maxLen) :
    Calls Try.prog 7 #[.string s] w fun e w' => e = .returned (.tuple #[.int .i64 (numS s.data.toList).1, .bool (numS s.data.toList).2]) ∧ w = w' := by
  unfold maxLen at hs
  have hlen : s.data.toList.length = s.size := by simp
  by_cases h1 : s.size < 1
  · rw [numS_bad (.inl (by omega))]
    go_enter Try.func7, Try.ntmps7
    go_wp2
    go_ret2
    exact ⟨rfl, rfl⟩
  by_cases h2 : 9 < s.size
  · rw [numS_bad (.inr (.inl (by omega)))]
    go_enter Try.func7, Try.ntmps7
    go_wp2
    go_ret2
    exact ⟨rfl, rfl⟩
  have h0 : 0 < s.size := by omega
  have hhd : s.data.toList.head? = some s[0] := by
    rw [List.head?_eq_getElem?, List.getElem?_eq_getElem (by simpa using h0)]
    rfl
  have h255 : (s[0].toNat : Int) ≤ 255 := by have := s[0].toNat_lt; omega
  by_cases h3 : (s[0].toNat : Int) = 48 ∧ 1 < s.size
  · obtain ⟨h3, h4⟩ := h3
    have he : s[0] = 48 := UInt8.toNat_inj.1 (by have e : (48 : UInt8).toNat = 48 := rfl; omega)
    rw [numS_bad (.inr (.inr (.inl ⟨by rw [hhd, he], by omega⟩)))]
    clear hhd he
    go_enter Try.func7, Try.ntmps7
    go_wp2
    go_ret2
    exact ⟨rfl, rfl⟩
  · have hS : Hid (numS s.data.toList = match numA s.data.toList 0 with
      | some v => (v, true)
      | none => (0, false)) := by
      show _ = _
      unfold numS
      rw [if_neg]
      rintro (h | h | ⟨h, h'⟩)
      · omega
      · omega
      · rw [hhd] at h
        injection h with h
        exact h3 ⟨by rw [h]; rfl, by omega⟩
    clear hhd
    have h5 : ¬ (s[0].toNat : Int) = 48 ∨ ((s[0].toNat : Int) = 48 ∧ ¬ 1 < s.size) := by omega
    clear h3
    rcases h5 with h5 | ⟨h5, h6⟩
    all_goals
      go_enter Try.func7, Try.ntmps7
      go_wp2
      go_loop [4, 26] (fun a i => ∃ (k : Nat) (v : Int), k ≤ s.size ∧ i = .int .i64 k ∧ a = .int .i64 v ∧ 0 ≤ v ∧ v + 1 ≤ p10 k ∧ Hid (numA s.data.toList 0 = numA (s.data.toList.drop k) v)) (fun a i => s.size - (intOf i).toNat)
      case atStart => exact ⟨0, 0, by omega, rfl, rfl, by omega, by decide, Lib.hid (by rw [List.drop_zero])⟩
      case round =>
        obtain ⟨k, v, hk, rfl, rfl, hv0, hv1, hN⟩ := hrel
        have hp := p10_le k (by omega)
        by_cases hlt : k < s.size
        · have hb : (s[k].toNat : Int) ≤ 255 := by have := s[k].toNat_lt; omega
          have hb0 : (0 : Int) ≤ (s[k].toNat : Int) := by omega
          have Hs := Lib.hid (numA_drop s k v hlt)
          have hp2 := p10_le (k + 1) (by omega)
          have hp3 : p10 (k + 1) = 10 * p10 k := rfl
          by_cases hd : 48 ≤ (s[k].toNat : Int) ∧ (s[k].toNat : Int) ≤ 57
          · obtain ⟨hd1, hd2⟩ := hd
            have HD : Hid (digB s[k] = true) := by show _ = _; unfold digB; simp; omega
            go_wp2
            go_round
            case rel =>
              refine ⟨k + 1, 10 * v + ((s[k].toNat : Int) - 48), by omega, by go_num, by go_num, by omega, by omega, ?_⟩
              show _ = _
              rw [hN.out, Hs.out, if_pos HD.out]
            case measure => simp [intOf]; omega
          · have HD : Hid (digB s[k] = false) := by
              show _ = _
              have : ¬ digB s[k] = true := by unfold digB; simp; omega
              simpa using this
            have HF : Hid (numS s.data.toList = (0, false)) := by
              show _ = _
              rw [hS.out, hN.out, Hs.out, HD.out]
              rfl
            have hd' : (s[k].toNat : Int) < 48 ∨ (¬ (s[k].toNat : Int) < 48 ∧ 57 < (s[k].toNat : Int)) := by omega
            rcases hd' with hd' | ⟨hd', hd2⟩
            all_goals
              go_wp2
              go_ret2
              rw [HF.out]
              exact ⟨rfl, rfl⟩
        · have HF : Hid (numS s.data.toList = (v, true)) := by
            show _ = _
            have hk' : s.data.toList.drop k = [] := List.drop_of_length_le (by simp; omega)
            rw [hS.out, hN.out, hk']
            rfl
          go_wp2
          go_ret2
          rw [HF.out]
          exact ⟨rfl, rfl⟩
end Go.Proofs.Ytfbedlhigggggaa
