/- Contracts of package path and of the plain answers of chapter 6: what is of a run; temporary ones. -/
import Derived.Test.YtnindodkcfkgoaaDoorPath2
namespace Go.Proofs.YtnindodkcfkgoaaDoor
open Go.ChangeShapes Go.WideShapes Go.ChangeAt Go.RowKit
def runS (hd f e : ByteArray) (n : Int) : ByteArray := if nm f && nm e && inR n then ((((hd ++ f) ++ ⟨#[47]⟩) ++ e) ++ ⟨#[47]⟩) ++ twS n.toNat else ⟨#[]⟩
theorem slash_size : (⟨#[47]⟩ : ByteArray).size = 1 := rfl
set_option maxHeartbeats 2000000 in
theorem ofRun_any (hd f e : ByteArray) (n : Int) (w : World) (hh : hd.size ≤ 10) (hf : f.size ≤ 10) (he : e.size ≤ 10) : Calls Tryd.prog 24 #[.string hd, .string f, .string e, .int .i64 n] w fun x w' => x = .returned (.string (runS hd f e n)) ∧ Below w.heap.size w w' := by
  have r1 := fun w => Right_any f w (by unfold maxLen; omega)
  have r2 := fun w => Right_any e w (by unfold maxLen; omega)
  have r3 := fun w => right_any n w
  unfold runS nm
  cases h1 : rightB f.data.toList
  · rw [h1] at r1
    go_enter Tryd.func24, Tryd.ntmps24
    go_wp2_with fail
    refine (r1 _).mono ?_
    rintro x w1 ⟨rfl, rfl⟩
    go_wp2
    go_ret
    exact ⟨rfl, Below.refl _ _⟩
  · rw [h1] at r1
    cases h2 : rightB e.data.toList
    · rw [h2] at r2
      go_enter Tryd.func24, Tryd.ntmps24
      go_wp2_with fail
      refine (r1 _).mono ?_
      rintro x w1 ⟨rfl, rfl⟩
      go_wp2_with fail
      refine (r2 _).mono ?_
      rintro x w1 ⟨rfl, rfl⟩
      go_wp2
      go_ret
      exact ⟨rfl, Below.refl _ _⟩
    · rw [h2] at r2
      cases h3 : inR n
      · rw [h3] at r3
        go_enter Tryd.func24, Tryd.ntmps24
        go_wp2_with fail
        refine (r1 _).mono ?_
        rintro x w1 ⟨rfl, rfl⟩
        go_wp2_with fail
        refine (r2 _).mono ?_
        rintro x w1 ⟨rfl, rfl⟩
        go_wp2_with fail
        refine (r3 _).mono ?_
        rintro x w1 ⟨rfl, rfl⟩
        go_wp2
        go_ret
        exact ⟨rfl, Below.refl _ _⟩
      · rw [h3] at r3
        have hn : 1 ≤ n ∧ n ≤ 24 := by unfold inR at h3; simpa using h3
        obtain ⟨m, rfl⟩ := Int.eq_ofNat_of_zero_le (show 0 ≤ n by omega)
        have hdg := dg_any m (by omega)
        have hz : (twS m).size = 2 := rfl
        rw [Int.toNat_natCast]
        generalize twS m = T at *
        have z1 : (hd ++ f).size = hd.size + f.size := ByteArray.size_append
        have z2 : (hd ++ f ++ ⟨#[47]⟩ : ByteArray).size = hd.size + f.size + 1 := by rw [ByteArray.size_append, z1]; rfl
        have z3 : (hd ++ f ++ ⟨#[47]⟩ ++ e : ByteArray).size = hd.size + f.size + 1 + e.size := by rw [ByteArray.size_append, z2]
        have z4 : (hd ++ f ++ ⟨#[47]⟩ ++ e ++ ⟨#[47]⟩ : ByteArray).size = hd.size + f.size + 1 + e.size + 1 := by rw [ByteArray.size_append, z3]; rfl
        go_enter Tryd.func24, Tryd.ntmps24
        go_wp2_with fail
        refine (r1 _).mono ?_
        rintro x w1 ⟨rfl, rfl⟩
        go_wp2_with fail
        refine (r2 _).mono ?_
        rintro x w1 ⟨rfl, rfl⟩
        go_wp2_with fail
        refine (r3 _).mono ?_
        rintro x w1 ⟨rfl, rfl⟩
        go_wp2_with fail
        refine (hdg _).mono ?_
        rintro x w1 ⟨rfl, hb1⟩
        go_wp2
        go_ret
        exact ⟨rfl, hb1⟩
theorem Gone_any (f e : ByteArray) (n : Int) (w : World) (hf : f.size ≤ 10) (he : e.size ≤ 10) : Calls Tryd.prog 11 #[.string f, .string e, .int .i64 n] w fun x w' => x = .returned (.string (runS ⟨#[103, 111, 110, 101, 47]⟩ f e n)) ∧ Below w.heap.size w w' := by
  have h := fun w => ofRun_any ⟨#[103, 111, 110, 101, 47]⟩ f e n w (by show 5 ≤ 10; omega) hf he
  go_enter Tryd.func11, Tryd.ntmps11
  go_wp2_with fail
  refine (h _).mono ?_
  rintro x w1 ⟨rfl, hb1⟩
  go_wp2
  go_ret
  exact ⟨rfl, hb1⟩
theorem Box_any (f e : ByteArray) (n : Int) (w : World) (hf : f.size ≤ 10) (he : e.size ≤ 10) : Calls Tryd.prog 13 #[.string f, .string e, .int .i64 n] w fun x w' => x = .returned (.string (runS ⟨#[98, 111, 120, 47]⟩ f e n)) ∧ Below w.heap.size w w' := by
  have h := fun w => ofRun_any ⟨#[98, 111, 120, 47]⟩ f e n w (by show 4 ≤ 10; omega) hf he
  go_enter Tryd.func13, Tryd.ntmps13
  go_wp2_with fail
  refine (h _).mono ?_
  rintro x w1 ⟨rfl, hb1⟩
  go_wp2
  go_ret
  exact ⟨rfl, hb1⟩
set_option maxHeartbeats 2000000 in
theorem rOf_any (hd hs f e : ByteArray) (n : Int) (w : World) (hq : hd ++ ⟨#[47]⟩ = hs) (hh : hs.size ≤ 10) (hf : f.size ≤ 10) (he : e.size ≤ 10) : Calls Tryd.prog 12 #[.string hd, .string f, .string e, .int .i64 n] w fun x w' => x = .returned (.string (runS hs f e n)) ∧ Below w.heap.size w w' := by
  have r1 := fun w => rRight_any f w (by unfold maxLen; omega)
  have r2 := fun w => rRight_any e w (by unfold maxLen; omega)
  have r3 := fun w => two_any n w
  have z0 : hs.size = hd.size + 1 := by rw [← hq, ByteArray.size_append]; rfl
  unfold runS nm
  cases h1 : rightB f.data.toList
  · rw [h1] at r1
    go_enter Tryd.func12, Tryd.ntmps12
    go_wp2_with fail
    refine (r1 _).mono ?_
    rintro x w1 ⟨rfl, rfl⟩
    go_wp2
    go_ret
    exact ⟨rfl, Below.refl _ _⟩
  · rw [h1] at r1
    cases h2 : rightB e.data.toList
    · rw [h2] at r2
      go_enter Tryd.func12, Tryd.ntmps12
      go_wp2_with fail
      refine (r1 _).mono ?_
      rintro x w1 ⟨rfl, rfl⟩
      go_wp2_with fail
      refine (r2 _).mono ?_
      rintro x w1 ⟨rfl, rfl⟩
      go_wp2
      go_ret
      exact ⟨rfl, Below.refl _ _⟩
    · rw [h2] at r2
      have z1 : (hs ++ f).size = hs.size + f.size := ByteArray.size_append
      have z2 : (hs ++ f ++ ⟨#[47]⟩ : ByteArray).size = hs.size + f.size + 1 := by rw [ByteArray.size_append, z1]; rfl
      have z3 : (hs ++ f ++ ⟨#[47]⟩ ++ e : ByteArray).size = hs.size + f.size + 1 + e.size := by rw [ByteArray.size_append, z2]
      have z4 : (hs ++ f ++ ⟨#[47]⟩ ++ e ++ ⟨#[47]⟩ : ByteArray).size = hs.size + f.size + 1 + e.size + 1 := by rw [ByteArray.size_append, z3]; rfl
      cases h3 : inR n
      · rw [h3] at r3
        go_enter Tryd.func12, Tryd.ntmps12
        go_wp2_with fail
        refine (r1 _).mono ?_
        rintro x w1 ⟨rfl, rfl⟩
        go_wp2_with fail
        refine (r2 _).mono ?_
        rintro x w1 ⟨rfl, rfl⟩
        go_wp2_with fail
        refine (r3 _).mono ?_
        rintro x w1 ⟨rfl, hb1⟩
        go_wp2
        go_ret
        exact ⟨rfl, hb1⟩
      · rw [h3] at r3
        simp only [if_true] at r3
        have hz : (twS n.toNat).size = 2 := rfl
        have hne := tw_ne n.toNat
        generalize twS n.toNat = T at *
        go_enter Tryd.func12, Tryd.ntmps12
        go_wp2_with fail
        refine (r1 _).mono ?_
        rintro x w1 ⟨rfl, rfl⟩
        go_wp2_with fail
        refine (r2 _).mono ?_
        rintro x w1 ⟨rfl, rfl⟩
        go_wp2_with fail
        refine (r3 _).mono ?_
        rintro x w1 ⟨rfl, hb1⟩
        go_wp2_with fail
        refine (r3 _).mono ?_
        rintro x w2 ⟨rfl, hb2⟩
        go_wp2
        go_ret
        exact ⟨rfl, (below_same hb1 hb1.size hb2).1⟩
theorem Temp_any (s : ByteArray) (w : World) (hs : s.size ≤ 140737488355328) : Calls Tryd.prog 14 #[.string s] w fun x w' => x = .returned (.string (s ++ ⟨#[126]⟩)) ∧ w = w' := by
  go_enter Tryd.func14, Tryd.ntmps14
  go_wp2
  go_ret
  exact ⟨rfl, rfl⟩
theorem u8_eq (x : UInt8) : ((x.toNat : Int) == 126) = (x == 126) := by
  rw [Bool.eq_iff_iff]
  simp only [beq_iff_eq]
  constructor
  · intro h
    apply UInt8.toNat_inj.1
    show x.toNat = 126
    omega
  · rintro rfl; rfl
theorem one_eq (x : UInt8) : ([x] == [(126 : UInt8)]) = (x == 126) := by
  rw [Bool.eq_iff_iff]
  simp
theorem last_one (s : ByteArray) (h : 0 < s.size) : (s.extract (s.size - 1) s.size).toList = [s[s.size - 1]] := by
  rw [ByteArray.toList_eq]
  have hl : s.data.toList.length = s.size := Array.length_toList
  have e1 : (s.extract (s.size - 1) s.size).data.toList = (s.data.toList.drop (s.size - 1)).take 1 := by
    simp only [ByteArray.data_extract, Array.toList_extract, List.extract]
    congr 1
    omega
  rw [e1, List.drop_eq_getElem_cons (by omega), List.drop_of_length_le (by omega)]
  rfl
def isT (s : ByteArray) : Bool := if h : 0 < s.size then s[s.size - 1] == 126 else false
set_option maxHeartbeats 1000000 in
theorem rIsTemp_any (s : ByteArray) (w : World) (hs : s.size ≤ 140737488355329) : Calls Tryd.prog 16 #[.string s] w fun x w' => x = .returned (.bool (isT s)) ∧ w = w' := by
  unfold isT
  by_cases h : 0 < s.size
  · rw [dif_pos h]
    go_enter Tryd.func16, Tryd.ntmps16
    go_wp2
    go_ret
    exact ⟨ret_bool (u8_eq _), rfl⟩
  · rw [dif_neg h]
    go_enter Tryd.func16, Tryd.ntmps16
    go_wp2
    go_ret
    exact ⟨rfl, rfl⟩
set_option maxHeartbeats 1000000 in
theorem suffix_any (s : ByteArray) (w : World) (hs : s.size ≤ 140737488355329) : Calls Tryd.prog 28 #[.string s, .string ⟨#[126]⟩] w fun x w' => x = .returned (.bool (isT s)) ∧ w = w' := by
  unfold isT
  by_cases h : 0 < s.size
  · rw [dif_pos h]
    go_enter Tryd.func28, Tryd.ntmps28
    go_wp2
    go_ret
    exact ⟨ret_bool (by rw [last_one s h]; exact one_eq _), rfl⟩
  · rw [dif_neg h]
    go_enter Tryd.func28, Tryd.ntmps28
    go_wp2
    go_ret
    exact ⟨rfl, rfl⟩
theorem HasSuffix_any (s : ByteArray) (w : World) (hs : s.size ≤ 140737488355329) : Calls Tryd.prog 25 #[.string s, .string ⟨#[126]⟩] w fun x w' => x = .returned (.bool (isT s)) ∧ w = w' := by
  have h := fun w => suffix_any s w hs
  go_enter Tryd.func25, Tryd.ntmps25
  go_wp2_with fail
  refine (h _).mono ?_
  rintro x w1 ⟨rfl, rfl⟩
  go_wp2
  go_ret
  exact ⟨rfl, rfl⟩
theorem IsTemp_any (s : ByteArray) (w : World) (hs : s.size ≤ 140737488355329) : Calls Tryd.prog 15 #[.string s] w fun x w' => x = .returned (.bool (isT s)) ∧ w = w' := by
  have h := fun w => HasSuffix_any s w hs
  go_enter Tryd.func15, Tryd.ntmps15
  go_wp2_with fail
  refine (h _).mono ?_
  rintro x w1 ⟨rfl, rfl⟩
  go_wp2
  go_ret
  exact ⟨rfl, rfl⟩
theorem isT_temp (s : ByteArray) : isT (s ++ ⟨#[126]⟩) = true := by
  have hz : (s ++ ⟨#[126]⟩ : ByteArray).size = s.size + 1 := by rw [ByteArray.size_append]; rfl
  have h : 0 < (s ++ ⟨#[126]⟩ : ByteArray).size := by omega
  have hl := last_one (s ++ ⟨#[126]⟩) h
  rw [ByteArray.toList_eq] at hl
  have e : ((s ++ ⟨#[126]⟩ : ByteArray).extract ((s ++ ⟨#[126]⟩ : ByteArray).size - 1) (s ++ ⟨#[126]⟩ : ByteArray).size).data.toList = [126] := by
    rw [hz]
    simp only [ByteArray.data_extract, ByteArray.data_append, Array.toList_extract, List.extract, Array.toList_append]
    have hs : s.data.toList.length = s.size := Array.length_toList
    rw [List.drop_append_of_le_length (by omega), List.drop_of_length_le (by omega)]
    simp
  rw [e] at hl
  unfold isT
  rw [dif_pos h]
  injection hl with hl
  rw [← hl]
  rfl
end Go.Proofs.YtnindodkcfkgoaaDoor
