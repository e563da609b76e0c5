/- The walk of NameTells: the Go text returns true, and writes nothing that was there. -/
import Derived.Test.YtkiomhnjfakjbaaRefName
import Derived.Test.YtkiomhnjfakjbaaLess
namespace Go.Proofs.Ytkiomhnjfakjbaa.nameTells
open Go.ChangeShapes Go.WideShapes Go.ChangeAt Go.RowKit
set_option linter.unusedVariables false
open Go.Maps
theorem str_info : (Try.prog.info? 9).map (fun i => (i.zero, i.size, i.bytes)) = some (some (.string ⟨#[]⟩), 1, 16) := by kernel_rfl
theorem wakes_any (w : World) :
    Calls Try.prog 11 #[] w fun e w' => e = .returned (.bool true) ∧ w = w' := by
  have r1 : rightB [] = false := by decide
  have r2 : rightB [97, 49] = true := by decide
  go_enter Try.func11, Try.ntmps11
  go_wp2_with (go_at_call 10; refine (Right_any _ _ (by decide)).mono ?_; rintro e w' ⟨rfl, rfl⟩)
  go_ret
  exact ⟨rfl, rfl⟩
theorem ext_le (s : ByteArray) (k : Nat) : (s.extract 0 (min s.size k)).size ≤ k := by
  rw [ByteArray.size_extract]; omega
def Inv (W : World) (n : Nat) (s i : Value) (wr : World) : Prop :=
  ∃ (k : Nat) (ys : List ByteArray), k ≤ n ∧ k ≤ 8 ∧ ys.length = k ∧ i = .int .i64 k ∧ wr.ownsRow W.heap.size 9 1 s k (ys.map Value.string) ∧ Below W.heap.size W wr ∧ Hid (∀ y ∈ ys, y.size ≤ maxLen)
theorem two_boxes (w : World) (a b c d : Value) (t : TypeId) : ((w.alloc (.cells #[a, b] t)).alloc (.cells #[c, d] t)).cell? ⟨w.heap.size, 0, none⟩ = some a ∧ ((w.alloc (.cells #[a, b] t)).alloc (.cells #[c, d] t)).cell? ⟨w.heap.size, 1, none⟩ = some b ∧
    ((w.alloc (.cells #[a, b] t)).alloc (.cells #[c, d] t)).cell? ⟨w.heap.size + 1, 0, none⟩ = some c ∧ ((w.alloc (.cells #[a, b] t)).alloc (.cells #[c, d] t)).cell? ⟨w.heap.size + 1, 1, none⟩ = some d ∧
    w.heap.size + 1 < ((w.alloc (.cells #[a, b] t)).alloc (.cells #[c, d] t)).heap.size ∧ Below w.heap.size w ((w.alloc (.cells #[a, b] t)).alloc (.cells #[c, d] t)) := by
  refine ⟨by go_simp, by go_simp, by go_simp, by go_simp, by simp, ((Below.refl _ _).alloc (Nat.le_refl _) _).alloc (by simp) _⟩
def lessLaw (fa ta fb tb : ByteArray) : Bool := Op.bytesLess fa.toList fb.toList || (fa.toList == fb.toList && Op.bytesLess ta.toList tb.toList)
theorem lessLaw_eq (fa ta fb tb : ByteArray) : lessLaw fa ta fb tb = lessB fa ta fb tb := by
  unfold lessLaw lessB
  by_cases h : fa.toList = fb.toList
  · simp [h, bl_irrefl]
  · simp [h]
set_option maxRecDepth 100000 in
set_option maxHeartbeats 4000000 in
theorem walk (A0 : Option Addr) (n0 c0 : Nat) (x0 : List ByteArray) (a1 : ByteArray) (a2 : ByteArray) (f3 t3 : ByteArray) (f4 t4 : ByteArray) (w : World) (b0 : StrRow w A0 n0 c0 x0) (b1 : a1.size ≤ maxLen) (b2 : a2.size ≤ maxLen) (b3 : f3.size ≤ maxLen ∧ t3.size ≤ maxLen) (b4 : f4.size ≤ maxLen ∧ t4.size ≤ maxLen) :
    Calls Try.prog 4 #[.slice A0 n0 c0, .string a1, .string a2, .agg #[.string f3, .string t3], .agg #[.string f4, .string t4]] w fun e w' => e = .returned (.bool true) ∧ Below w.heap.size w w' := by
  obtain ⟨b21, b22, b23, hr, hwf⟩ := b0
  unfold maxLen at b22
  obtain ⟨i0, hi, hz0, hz1, hz2⟩ := info_parts str_info
  clear b23
  go_enter Try.func4, Try.ntmps4
  go_wp2_with (go_at_call 12; refine (Text_any _ _ _ (by assumption) (by omega) (by omega)).mono ?_; rintro e w' ⟨rfl, rfl⟩)
  have hs1 : (a1.extract 0 (min a1.size 10)).size ≤ maxLen := by have := ext_le a1 10; unfold maxLen; omega
  have hs2 : (a2.extract 0 (min a2.size 10)).size ≤ maxLen := by have := ext_le a2 10; unfold maxLen; omega
  generalize a1.extract 0 (min a1.size 10) = s1 at *
  generalize a2.extract 0 (min a2.size 10) = s2 at *
  obtain ⟨c1, c2, c3, c4, hsz, hB⟩ := two_boxes w (.string f3) (.string t3) (.string f4) (.string t4) 26
  generalize ((w.alloc (.cells #[.string f3, .string t3] 26)).alloc (.cells #[.string f4, .string t4] 26)) = W2 at *
  have hr2 := (hr.below hB).more hB.size
  go_loopw [11, 12] (fun s i wr => Inv W2 n0 s i wr) (fun _ i _ => 8 - (intOf i).toNat)
  case atStart => exact ⟨0, [], by omega, by omega, rfl, rfl, ⟨by simp, .inl ⟨rfl, rfl⟩⟩, Below.refl _ _, fun y hy => by simp at hy⟩
  case round =>
    obtain ⟨k, ys, hk, hk8, hlen, rfl, hown, hbel, Hy⟩ := hrel
    have hsz1 := hbel.size
    have HL := Lib.hid hlen
    clear hlen
    by_cases hlt : k < n0 ∧ k < 8
    · obtain ⟨hlt, hlt8⟩ := hlt
      obtain ⟨ad, s, rfl, hx, hc⟩ := strs_at (hr2.below hbel) hlt
      have hss := hwf s (List.mem_of_getElem? hx)
      have hle : (s.extract 0 (min s.size 9)).size ≤ maxLen := by have := ext_le s 9; unfold maxLen; omega
      clear hx
      go_wp2_with (first | (go_at_call 12; refine (Text_any _ _ _ hss (by omega) (by omega)).mono ?_; rintro e w' ⟨rfl, rfl⟩) | (at_builtin; go_must (refine wpList_append_own _ rfl _ _ 31 rfl W2.heap.size 9 i0 (.string ⟨#[]⟩) 1 16 Try.underlying31 hi hz0 hz1 hz2 rfl (by decide) _ _ _ rfl (hown.alloc _) ⟨wr.heap.size, 0, none⟩ 1 1 [.string (s.extract 0 (min s.size 9))] rfl rfl (cell_one_new _ _ _) (one_cell_str _) (by simp only [maxLen]; omega) (by omega) (by simp; omega) ?_); intro v1 w1 hown1 hg1 _hne; have hbel1 := push_below hbel hsz1 hown _ hg1; clear hg1 _hne))
      go_roundw
      case rel => exact ⟨k + 1, ys ++ [s.extract 0 (min s.size 9)], by omega, by omega, by simp [HL.out], by go_num, by rw [List.map_append]; exact hown1, hbel1, fun y hy => by rcases List.mem_append.1 hy with h | h; exact Hy.out y h; simp at h; subst h; exact hle⟩
      case measure => simp [intOf]; omega
    · obtain ⟨A, c, rfl, hAc, hcm⟩ := own_slice hown
      have hread := Reads.of_own hown
      have e1 := hbel.cell (p := ⟨w.heap.size, 0, none⟩) (by simp; omega)
      have e2 := hbel.cell (p := ⟨w.heap.size, 1, none⟩) (by simp; omega)
      have e3 := hbel.cell (p := ⟨w.heap.size + 1, 0, none⟩) (by simp; omega)
      have e4 := hbel.cell (p := ⟨w.heap.size + 1, 1, none⟩) (by simp; omega)
      rw [c1] at e1
      rw [c2] at e2
      rw [c3] at e3
      rw [c4] at e4
      have HLs := Lib.hid (lessLaw_eq f3 t3 f4 t4)
      have hq : rightB s1.data.toList = true ∨ rightB s1.data.toList = false := by cases rightB s1.data.toList <;> simp
      have hl : (Op.bytesLess f3.toList f4.toList = true ∧ lessB f3 t3 f4 t4 = true) ∨ (Op.bytesLess f3.toList f4.toList = false ∧ (f3.toList == f4.toList) = true ∧ lessB f3 t3 f4 t4 = Op.bytesLess t3.toList t4.toList) ∨ (Op.bytesLess f3.toList f4.toList = false ∧ (f3.toList == f4.toList) = false ∧ lessB f3 t3 f4 t4 = false) := by
        rw [← HLs.out]; unfold lessLaw
        cases h1 : Op.bytesLess f3.toList f4.toList <;> cases h2 : (f3.toList == f4.toList) <;> simp
      clear hr hr2 hown
      by_cases hlt2 : k < n0
      all_goals
        rcases hq with hq | hq <;> rcases hl with ⟨hq2, hq3⟩ | ⟨hq2, hq4, hq3⟩ | ⟨hq2, hq4, hq3⟩
        all_goals
          go_wp2_with (first | (go_at_call 10; refine (Right_any _ _ (by assumption)).mono ?_; rintro e w' ⟨rfl, rfl⟩) | (go_at_call 13; refine (rRight_any _ _ (by assumption)).mono ?_; rintro e w' ⟨rfl, rfl⟩) | (go_at_call 8; refine (Key_any _ _ _ hs1 hs2).mono ?_; rintro e w1 ⟨rfl, hb1⟩) | (go_at_call 11; refine (wakes_any _).mono ?_; rintro e w' ⟨rfl, rfl⟩))
          refine (All_any _ _ _ ys _ ((hread.below hb1).more hb1.size) (by omega) Hy.out).mono ?_
          rintro e w2 ⟨rfl, hb2⟩
          go_wp2_with (first | (go_at_call 10; refine (Right_any _ _ (by assumption)).mono ?_; rintro e w' ⟨rfl, rfl⟩) | (go_at_call 13; refine (rRight_any _ _ (by assumption)).mono ?_; rintro e w' ⟨rfl, rfl⟩) | (go_at_call 8; refine (Key_any _ _ _ hs1 hs2).mono ?_; rintro e w1 ⟨rfl, hb1⟩) | (go_at_call 11; refine (wakes_any _).mono ?_; rintro e w' ⟨rfl, rfl⟩))
          refine (rAll_any _ _ _ ys _ ((((hread.below hb1).more hb1.size).below hb2).more hb2.size) (by omega) Hy.out).mono ?_
          rintro e w3 ⟨rfl, hb3⟩
          have hB3 : Below W2.heap.size W2 w3 := hbel.trans ((hb1.mono hsz1).trans ((hb2.mono (Nat.le_trans hsz1 hb1.size)).trans (hb3.mono (Nat.le_trans hsz1 (Nat.le_trans hb1.size hb2.size)))))
          have d1 := hB3.cell (p := ⟨w.heap.size, 0, none⟩) (by simp; omega)
          have d2 := hB3.cell (p := ⟨w.heap.size, 1, none⟩) (by simp; omega)
          have d3 := hB3.cell (p := ⟨w.heap.size + 1, 0, none⟩) (by simp; omega)
          have d4 := hB3.cell (p := ⟨w.heap.size + 1, 1, none⟩) (by simp; omega)
          rw [c1] at d1
          rw [c2] at d2
          rw [c3] at d3
          rw [c4] at d4
          go_wp2_with (first | (go_at_call 10; refine (Right_any _ _ (by assumption)).mono ?_; rintro e w' ⟨rfl, rfl⟩) | (go_at_call 13; refine (rRight_any _ _ (by assumption)).mono ?_; rintro e w' ⟨rfl, rfl⟩) | (go_at_call 8; refine (Key_any _ _ _ hs1 hs2).mono ?_; rintro e w1 ⟨rfl, hb1⟩) | (go_at_call 11; refine (wakes_any _).mono ?_; rintro e w' ⟨rfl, rfl⟩))
          refine (Less_any _ _ _ _ _).mono ?_
          rintro e w4 ⟨rfl, hb4⟩
          go_wp2_with (first | (go_at_call 10; refine (Right_any _ _ (by assumption)).mono ?_; rintro e w' ⟨rfl, rfl⟩) | (go_at_call 13; refine (rRight_any _ _ (by assumption)).mono ?_; rintro e w' ⟨rfl, rfl⟩) | (go_at_call 8; refine (Key_any _ _ _ hs1 hs2).mono ?_; rintro e w1 ⟨rfl, hb1⟩) | (go_at_call 11; refine (wakes_any _).mono ?_; rintro e w' ⟨rfl, rfl⟩))
          go_ret
          exact ⟨rfl, hB.trans ((hB3.mono (by omega)).trans (hb4.mono (by have := hB3.size; omega)))⟩

end Go.Proofs.Ytkiomhnjfakjbaa.nameTells
