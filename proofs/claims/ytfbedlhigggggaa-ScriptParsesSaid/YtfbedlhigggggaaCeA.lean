/- Plain: the words of a text that begins with 'what'. No program. -/
import Derived.Shelf.Strings.FieldsFuncGrows
namespace Go.Proofs.Ytfbedlhigggggaa
open Go Go.Lib
set_option linter.unusedVariables false
/-- It begins with 'what'. -/
def Wh (s : ByteArray) : Prop := ∃ r, s.data.toList = [119, 104, 97, 116] ++ r
def spB (x : Nat) : Bool := decide ((x : Int) = 32)
def InvW (s : ByteArray) (x : List (Nat × Nat) × Option Nat) : Prop := (x.1 = [] ∧ x.2 = some 0) ∨ ∃ b r, x.1 = (0, b) :: r ∧ 4 ≤ b ∧ b ≤ s.size
theorem spans_inv (p : Nat → Bool) (s : ByteArray) : ∀ (f pos : Nat) (st : Option Nat) (acc : List (Nat × Nat)), 4 ≤ pos → InvW s (acc, st) → InvW s (spansFromP p s f pos st acc)
  | 0, pos, st, acc, h4, h => h
  | f + 1, pos, st, acc, h4, h => by
    unfold spansFromP
    split
    · rename_i hlt
      split
      · split
        · rename_i a
          refine spans_inv p s f _ _ _ (by omega) ?_
          rcases h with ⟨h1, h2⟩ | ⟨b, r, h1, h2, h3⟩
          · simp only at h1 h2
            injection h2 with h2
            subst h1 h2
            exact .inr ⟨pos, [], rfl, h4, by omega⟩
          · simp only at h1
            subst h1
            exact .inr ⟨b, r ++ [(a, pos)], rfl, h2, h3⟩
        · refine spans_inv p s f _ _ _ (by omega) ?_
          rcases h with ⟨h1, h2⟩ | ⟨b, r, h1, h2, h3⟩
          · cases h2
          · exact .inr ⟨b, r, h1, h2, h3⟩
      · split
        · refine spans_inv p s f _ _ _ (by omega) ?_
          rcases h with ⟨h1, h2⟩ | ⟨b, r, h1, h2, h3⟩
          · exact .inl ⟨h1, h2⟩
          · exact .inr ⟨b, r, h1, h2, h3⟩
        · refine spans_inv p s f _ _ _ (by omega) ?_
          rcases h with ⟨h1, h2⟩ | ⟨b, r, h1, h2, h3⟩
          · cases h2
          · exact .inr ⟨b, r, h1, h2, h3⟩
    · exact h
theorem sizeL (s : ByteArray) : s.data.toList.length = s.size := by simp
theorem Wh.at_ {s : ByteArray} (h : Wh s) : 4 ≤ s.size ∧ ∀ k (hk : k < s.size), k < 4 → s[k].toNat < 128 ∧ spB s[k].toNat = false := by
  obtain ⟨r, h⟩ := h
  have hs := sizeL s
  rw [h] at hs
  refine ⟨by simp at hs; omega, fun k hk h4 => ?_⟩
  have e : s.data.toList[k]? = some s[k] := by
    rw [List.getElem?_eq_getElem (by simpa using hk)]; rfl
  rw [h] at e
  rcases (by omega : k = 0 ∨ k = 1 ∨ k = 2 ∨ k = 3) with rfl | rfl | rfl | rfl
  all_goals
    simp only [List.cons_append, List.nil_append, List.getElem?_cons_zero, List.getElem?_cons_succ, Option.some.injEq] at e
    rw [← e]
    decide
theorem one_step {s : ByteArray} (h : Wh s) (f pos : Nat) (h4 : pos < 4) : spansFromP spB s (f + 1) pos (if pos = 0 then none else some 0) [] = spansFromP spB s f (pos + 1) (some 0) [] := by
  obtain ⟨h1, h2⟩ := h.at_
  obtain ⟨h3, h5⟩ := h2 pos (by omega) h4
  conv => lhs; unfold spansFromP
  rw [if_pos (by omega), decode_ascii s pos (by omega) h3]
  simp only [h5, Bool.false_eq_true, if_false]
  by_cases h0 : pos = 0
  · subst h0; rfl
  · simp only [h0, if_false]
theorem spans_wh {s : ByteArray} (h : Wh s) : ∃ b r, spansOfP spB s = (0, b) :: r ∧ 4 ≤ b ∧ b ≤ s.size := by
  obtain ⟨h1, _⟩ := h.at_
  obtain ⟨n, hn⟩ : ∃ n, s.size = n + 4 := ⟨s.size - 4, by omega⟩
  have e : spansFromP spB s s.size 0 none [] = spansFromP spB s n 4 (some 0) [] := by
    rw [hn]
    have a0 := one_step h (n + 3) 0 (by omega)
    have a1 := one_step h (n + 2) 1 (by omega)
    have a2 := one_step h (n + 1) 2 (by omega)
    have a3 := one_step h n 3 (by omega)
    simp only [if_true] at a0
    rw [if_neg (by decide)] at a1 a2 a3
    rw [a0, a1, a2, a3]
  have hv := spans_inv spB s n 4 (some 0) [] (Nat.le_refl _) (.inl ⟨rfl, rfl⟩)
  unfold spansOfP
  rw [e]
  revert hv
  generalize spansFromP spB s n 4 (some 0) [] = x
  intro hv
  rcases x with ⟨acc, st⟩
  rcases hv with ⟨h2, h3⟩ | ⟨b, r, h2, h3, h4⟩
  · simp only at h2 h3
    subst h2 h3
    exact ⟨s.size, [], rfl, by omega, Nat.le_refl _⟩
  · simp only at h2
    subst h2
    cases st with
    | none => exact ⟨b, r, rfl, h3, h4⟩
    | some a => exact ⟨b, r ++ [(a, s.size)], rfl, h3, h4⟩
theorem fields_wh {s : ByteArray} (h : Wh s) : ∃ w0 L, goFieldsP spB s = w0 :: L ∧ Wh w0 := by
  obtain ⟨b, r, h1, h2, h3⟩ := spans_wh h
  unfold goFieldsP
  rw [h1]
  refine ⟨s.extract 0 b, _, rfl, ?_⟩
  obtain ⟨l, hl⟩ := h
  have e : (s.extract 0 b).data.toList = s.data.toList.take b := by rw [Lib.extract_data]; simp
  refine ⟨l.take (b - 4), ?_⟩
  rw [e, hl]
  obtain ⟨c, rfl⟩ : ∃ c, b = c + 4 := ⟨b - 4, by omega⟩
  simp
theorem fields_len (p : Nat → Bool) (s : ByteArray) : ∀ q ∈ goFieldsP p s, q.size ≤ s.size := by
  intro q hq
  unfold goFieldsP at hq
  obtain ⟨x, _, rfl⟩ := List.mem_map.1 hq
  have e : (s.extract x.1 x.2).data.toList = (s.data.toList.take x.2).drop x.1 := by rw [Lib.extract_data]; simp [List.drop_take]
  have := sizeL (s.extract x.1 x.2)
  rw [e] at this
  rw [← this, List.length_drop, List.length_take]
  have := sizeL s
  omega
theorem spans_cnt (p : Nat → Bool) (s : ByteArray) : ∀ (f pos : Nat) (st : Option Nat) (acc : List (Nat × Nat)), (spansFromP p s f pos st acc).1.length ≤ acc.length + f
  | 0, pos, st, acc => Nat.le_refl _
  | f + 1, pos, st, acc => by
    unfold spansFromP
    split
    · split
      · split
        · rename_i a
          have := spans_cnt p s f (pos + (Utf8.decode s pos).2) none (acc ++ [(a, pos)])
          simp only [List.length_append, List.length_singleton] at this
          exact Nat.le_trans this (by omega)
        · exact Nat.le_trans (spans_cnt p s f _ _ _) (by omega)
      · split
        · exact Nat.le_trans (spans_cnt p s f _ _ _) (by omega)
        · exact Nat.le_trans (spans_cnt p s f _ _ _) (by omega)
    · show acc.length ≤ _
      omega
theorem fields_cnt {n : Nat} (s : ByteArray) (h : s.size ≤ n) : (goFieldsP spB s).length ≤ n + 1 := by
  unfold goFieldsP
  rw [List.length_map]
  unfold spansOfP closeSpans
  have := spans_cnt spB s s.size 0 none []
  split
  · simp at this ⊢
    omega
  · simp at this ⊢
    omega
theorem Wh.ne {s : ByteArray} (h : Wh s) {l : List UInt8} (hl : (match l with
  | a :: b :: c :: d :: _ => !(a == 119 && b == 104 && c == 97 && d == 116)
  | _ => true) = true) : s.data.toList ≠ l := by
  intro e
  obtain ⟨r, h⟩ := h
  rw [← e, h] at hl
  simp at hl
end Go.Proofs.Ytfbedlhigggggaa
