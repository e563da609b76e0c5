/- Contracts of name.Less and name.Key: keys, by framework, then by name. -/
import Derived.Test.YtkiomhnjfakjbaaName
namespace Go.Proofs.Ytkiomhnjfakjbaa
open Go.ChangeShapes Go.WideShapes Go.ChangeAt Go.RowKit
theorem bytesLess_eq' : ∀ (x y : List UInt8), Op.bytesLess x y = decide (x < y)
  | [], [] => by simp [Op.bytesLess]
  | _ :: _, [] => by simp [Op.bytesLess]
  | [], _ :: _ => by simp [Op.bytesLess]
  | a :: x, b :: y => by
    rw [Op.bytesLess, bytesLess_eq' x y]
    simp only [List.cons_lt_cons_iff]
    by_cases h1 : a < b <;> by_cases h2 : a = b <;> by_cases h3 : x < y <;> simp [h1, h2, h3]
theorem bl_irrefl (x : List UInt8) : Op.bytesLess x x = false := by
  rw [bytesLess_eq']; simp
theorem bl_trans (x y z : List UInt8) (h1 : Op.bytesLess x y = true) (h2 : Op.bytesLess y z = true) : Op.bytesLess x z = true := by
  rw [bytesLess_eq'] at *
  simp only [decide_eq_true_eq] at *
  exact List.lt_trans h1 h2
theorem bl_asymm (x y : List UInt8) (h1 : Op.bytesLess x y = true) : Op.bytesLess y x = false := by
  cases h : Op.bytesLess y x
  · rfl
  · have := bl_trans x y x h1 h; rw [bl_irrefl] at this; cases this
theorem bl_total (x y : List UInt8) (h : x ≠ y) : Op.bytesLess x y = true ∨ Op.bytesLess y x = true := by
  rw [bytesLess_eq', bytesLess_eq']
  simp only [decide_eq_true_eq]
  by_cases h1 : x < y
  · exact Or.inl h1
  · by_cases h2 : y < x
    · exact Or.inr h2
    · exact absurd (List.le_antisymm (by simpa using h2) (by simpa using h1)) h
def lessB (fa ta fb tb : ByteArray) : Bool := if fa.toList == fb.toList then Op.bytesLess ta.toList tb.toList else Op.bytesLess fa.toList fb.toList
set_option maxHeartbeats 400000 in
theorem Less_any (fa ta fb tb : ByteArray) (w : World) :
    Calls Try.prog 15 #[.agg #[.string fa, .string ta], .agg #[.string fb, .string tb]] w fun e w' => e = .returned (.bool (lessB fa ta fb tb)) ∧ Below w.heap.size w w' := by
  by_cases h : (fa.toList == fb.toList) = true
  · have H : Hid (lessB fa ta fb tb = Op.bytesLess ta.toList tb.toList) := by show _ = _; unfold lessB; rw [if_pos h]
    go_enter Try.func15, Try.ntmps15
    go_wp2
    go_ret
    exact ⟨ret_bool H.out.symm, ((Below.refl _ _).alloc (Nat.le_refl _) _).alloc (by simp) _⟩
  · have h' : (fa.toList == fb.toList) = false := by simpa using h
    have H : Hid (lessB fa ta fb tb = Op.bytesLess fa.toList fb.toList) := by show _ = _; unfold lessB; rw [if_neg h]
    clear h
    go_enter Try.func15, Try.ntmps15
    go_wp2
    go_ret
    exact ⟨ret_bool H.out.symm, ((Below.refl _ _).alloc (Nat.le_refl _) _).alloc (by simp) _⟩

set_option maxHeartbeats 400000 in
theorem Key_any (f t : ByteArray) (w : World) (hf : f.size ≤ maxLen) (_ht : t.size ≤ maxLen) :
    Calls Try.prog 8 #[.agg #[.string f, .string t]] w fun e w' => e = .returned (.bool (rightB f.data.toList && rightB t.data.toList)) ∧ Below w.heap.size w w' := by
  by_cases h : rightB f.data.toList = true
  · have H : Hid ((rightB f.data.toList && rightB t.data.toList) = rightB t.data.toList) := by show _ = _; rw [h]; rfl
    go_enter Try.func8, Try.ntmps8
    go_wp2_with (go_at_call 10; refine (Right_any _ _ (by assumption)).mono ?_; rintro e w' ⟨rfl, rfl⟩)
    go_ret
    exact ⟨ret_bool H.out.symm, (Below.refl _ _).alloc (Nat.le_refl _) _⟩
  · have h' : rightB f.data.toList = false := by simpa using h
    have H : Hid ((rightB f.data.toList && rightB t.data.toList) = false) := by show _ = _; rw [h']; rfl
    clear h
    go_enter Try.func8, Try.ntmps8
    go_wp2_with (go_at_call 10; refine (Right_any _ _ hf).mono ?_; rintro e w' ⟨rfl, rfl⟩)
    go_ret
    exact ⟨ret_bool H.out.symm, (Below.refl _ _).alloc (Nat.le_refl _) _⟩
end Go.Proofs.Ytkiomhnjfakjbaa
