/- Contracts of package path and of the plain answers of chapter 6: the texts. -/
import Derived.Test.YtnindodkcfkgoaaDoorPath
namespace Go.Proofs.YtnindodkcfkgoaaDoor
open Go.ChangeShapes Go.WideShapes Go.ChangeAt Go.RowKit
def nm (f : ByteArray) : Bool := rightB f.data.toList
theorem tw_ne (n : Nat) : (twS n).toList.isEmpty = false := by rw [ByteArray.toList_eq]; rfl
def admS (n : Int) : ByteArray := if inR n then ⟨#[97, 100, 109, 105, 116, 47]⟩ ++ twS n.toNat else ⟨#[]⟩
set_option maxHeartbeats 1000000 in
theorem Admit_any (n : Int) (w : World) : Calls Tryd.prog 7 #[.int .i64 n] w fun e w' => e = .returned (.string (admS n)) ∧ Below w.heap.size w w' := by
  unfold admS
  cases h : inR n
  · go_enter Tryd.func7, Tryd.ntmps7
    go_wp2_with (go_at_call 19; refine (right_any _ _).mono ?_; rintro e w' ⟨rfl, rfl⟩)
    go_ret
    exact ⟨rfl, Below.refl _ _⟩
  · have h1 : 1 ≤ n ∧ n ≤ 24 := by unfold inR at h; simpa using h
    obtain ⟨m, rfl⟩ := Int.eq_ofNat_of_zero_le (show 0 ≤ n by omega)
    have hd := dg_any m (by omega)
    have hz : (twS m).size = 2 := rfl
    rw [Int.toNat_natCast]
    generalize twS m = T at *
    go_enter Tryd.func7, Tryd.ntmps7
    go_wp2_with (first | (go_at_call 19; refine (right_any _ _).mono ?_; rintro e w' ⟨rfl, rfl⟩) | (go_at_call 20; refine (hd _).mono ?_; rintro e w1 ⟨rfl, hb1⟩))
    go_ret
    exact ⟨rfl, hb1⟩
set_option maxHeartbeats 1000000 in
theorem rAdmit_any (n : Int) (w : World) : Calls Tryd.prog 8 #[.int .i64 n] w fun e w' => e = .returned (.string (admS n)) ∧ Below w.heap.size w w' := by
  unfold admS
  have hd := fun w => two_any n w
  cases h : inR n
  · rw [h] at hd
    go_enter Tryd.func8, Tryd.ntmps8
    go_wp2_with (go_at_call 21; refine (hd _).mono ?_; rintro e w1 ⟨rfl, hb1⟩)
    go_ret
    exact ⟨rfl, hb1⟩
  · rw [h] at hd
    have hz : (twS n.toNat).size = 2 := rfl
    have hne := tw_ne n.toNat
    simp only [if_true] at hd ⊢
    generalize twS n.toNat = T at *
    go_enter Tryd.func8, Tryd.ntmps8
    go_wp2_with fail
    refine (hd _).mono ?_
    rintro e w1 ⟨rfl, hb1⟩
    go_wp2_with fail
    refine (hd _).mono ?_
    rintro e w2 ⟨rfl, hb2⟩
    go_wp2
    go_ret
    exact ⟨rfl, (below_same hb1 hb1.size hb2).1⟩
def logS (f e : ByteArray) : ByteArray := if nm f && nm e then ((⟨#[108, 111, 103, 47]⟩ ++ f) ++ ⟨#[47]⟩) ++ e else ⟨#[]⟩
set_option maxHeartbeats 1000000 in
theorem Key_any (f e : ByteArray) (w : World) (hf : f.size ≤ 10) (he : e.size ≤ 10) : Calls Tryd.prog 22 #[.agg #[.string f, .string e]] w fun x w' => x = .returned (.bool (nm f && nm e)) ∧ Below w.heap.size w w' := by
  have hm : maxLen = 140737488355328 ∨ 100 ≤ maxLen := .inr (by unfold maxLen; omega)
  have r1 := fun w => Right_any f w (by unfold maxLen; omega)
  have r2 := fun w => Right_any e w (by unfold maxLen; omega)
  unfold nm
  cases h : rightB f.data.toList
  · rw [h] at r1
    go_enter Tryd.func22, Tryd.ntmps22
    go_wp2_with fail
    refine (r1 _).mono ?_
    rintro x w1 ⟨rfl, rfl⟩
    go_wp2
    go_ret
    exact ⟨rfl, Below.alloc (Below.refl _ _) (Nat.le_refl _) _⟩
  · rw [h] at r1
    go_enter Tryd.func22, Tryd.ntmps22
    go_wp2_with fail
    refine (r1 _).mono ?_
    rintro x w1 ⟨rfl, rfl⟩
    go_wp2_with fail
    refine (r2 _).mono ?_
    rintro x w2 ⟨rfl, rfl⟩
    go_wp2
    go_ret
    exact ⟨rfl, Below.alloc (Below.refl _ _) (Nat.le_refl _) _⟩
set_option maxHeartbeats 1000000 in
theorem Log_any (f e : ByteArray) (w : World) (hf : f.size ≤ 10) (he : e.size ≤ 10) : Calls Tryd.prog 9 #[.agg #[.string f, .string e]] w fun x w' => x = .returned (.string (logS f e)) ∧ Below w.heap.size w w' := by
  have hk := fun w => Key_any f e w hf he
  unfold logS
  cases h : nm f && nm e
  · rw [h] at hk
    go_enter Tryd.func9, Tryd.ntmps9
    go_wp2_with fail
    refine (hk _).mono ?_
    rintro x w1 ⟨rfl, hb1⟩
    go_wp2
    go_ret
    exact ⟨rfl, (below_next (Below.refl _ _) (Nat.le_refl _) _ hb1).1⟩
  · rw [h] at hk
    have hz : (⟨#[108, 111, 103, 47]⟩ ++ f : ByteArray).size = 4 + f.size := by simp [ByteArray.size_append]; rfl
    have hz2 : ((⟨#[108, 111, 103, 47]⟩ ++ f) ++ ⟨#[47]⟩ : ByteArray).size = 5 + f.size := by rw [ByteArray.size_append, hz]; show 4 + f.size + 1 = _; omega
    go_enter Tryd.func9, Tryd.ntmps9
    go_wp2_with fail
    refine (hk _).mono ?_
    rintro x w1 ⟨rfl, hb1⟩
    have c0 : w1.cell? ⟨w.heap.size, 0, none⟩ = some (.string f) := (hb1.cell (p := ⟨w.heap.size, 0, none⟩) (by simp)).trans ((Blk.new w 28 #[.string f, .string e]).cell 0)
    have c1 : w1.cell? ⟨w.heap.size, 1, none⟩ = some (.string e) := (hb1.cell (p := ⟨w.heap.size, 1, none⟩) (by simp)).trans ((Blk.new w 28 #[.string f, .string e]).cell 1)
    go_wp2
    go_ret
    exact ⟨rfl, (below_next (Below.refl _ _) (Nat.le_refl _) _ hb1).1⟩
set_option maxHeartbeats 1000000 in
theorem rLog_any (f e : ByteArray) (w : World) (hf : f.size ≤ 10) (he : e.size ≤ 10) : Calls Tryd.prog 10 #[.agg #[.string f, .string e]] w fun x w' => x = .returned (.string (logS f e)) ∧ Below w.heap.size w w' := by
  have r1 := fun w => rRight_any f w (by unfold maxLen; omega)
  have r2 := fun w => rRight_any e w (by unfold maxLen; omega)
  unfold logS nm
  cases h : rightB f.data.toList
  · rw [h] at r1
    go_enter Tryd.func10, Tryd.ntmps10
    go_wp2_with fail
    refine (r1 _).mono ?_
    rintro x w1 ⟨rfl, rfl⟩
    go_wp2
    go_ret
    exact ⟨rfl, Below.alloc (Below.refl _ _) (Nat.le_refl _) _⟩
  · rw [h] at r1
    have hz : (⟨#[108, 111, 103, 47]⟩ ++ f : ByteArray).size = 4 + f.size := by simp [ByteArray.size_append]; rfl
    have hz2 : ((⟨#[108, 111, 103, 47]⟩ ++ f) ++ ⟨#[47]⟩ : ByteArray).size = 5 + f.size := by rw [ByteArray.size_append, hz]; show 4 + f.size + 1 = _; omega
    cases h2 : rightB e.data.toList
    all_goals
      rw [h2] at r2
      go_enter Tryd.func10, Tryd.ntmps10
      go_wp2_with fail
      refine (r1 _).mono ?_
      rintro x w1 ⟨rfl, rfl⟩
      go_wp2_with fail
      refine (r2 _).mono ?_
      rintro x w2 ⟨rfl, rfl⟩
      go_wp2
      go_ret
      exact ⟨rfl, Below.alloc (Below.refl _ _) (Nat.le_refl _) _⟩
end Go.Proofs.YtnindodkcfkgoaaDoor
