/- Contracts of the plain answers Right, of Text. -/
import Derived.Test.YtnindodkcfkgoaaDoorName
namespace Go.Proofs.YtnindodkcfkgoaaDoor
open Go.ChangeShapes Go.WideShapes Go.ChangeAt Go.RowKit

set_option maxHeartbeats 1000000 in
theorem rRight_any (s : ByteArray) (w : World) (hs : s.size ≤ maxLen) :
    Calls Tryd.prog 23 #[.string s] w fun e w' => e = .returned (.bool (rightB s.data.toList)) ∧ w = w' := by
  unfold maxLen at hs
  go_enter Tryd.func23, Tryd.ntmps23
  go_wp2
  go_loop [3] (fun i => ∃ k : Nat, k ≤ s.size ∧ i = .int .i64 k ∧ (s.data.toList.take k).all plU = true) (fun i => s.size - (intOf i).toNat)
  case atStart => exact ⟨0, by omega, rfl, rfl⟩
  case round =>
    obtain ⟨k, hk, rfl, hall⟩ := hrel
    by_cases hlt : k < s.size
    · have hb : (s[k].toNat : Int) ≤ 255 := by have := s[k].toNat_lt; omega
      have Hs : Hid ((s.data.toList.take (k + 1)).all plU = plB (s[k].toNat : Int)) := by show _ = _; rw [all_take_snoc plU s k hlt, hall]; simp [plU]
      have Hno : Hid (plB (s[k].toNat : Int) = false → rightB s.data.toList = false) := fun h => by
        have h1 := all_of_take plU s k hlt h
        unfold rightB; rw [h1]; simp
      clear hall
      by_cases a1 : 97 ≤ (s[k].toNat : Int) <;> by_cases a2 : (s[k].toNat : Int) ≤ 122 <;> by_cases a3 : 48 ≤ (s[k].toNat : Int) <;> by_cases a4 : (s[k].toNat : Int) ≤ 57
      all_goals first | (exfalso; omega) | skip
      all_goals go_wp2
      all_goals first
        | (go_round
           case rel => exact ⟨k + 1, by omega, by go_num, by rw [Hs.out]; exact plB_yes (by omega)⟩
           case measure => simp [intOf]; omega)
        | (go_ret
           exact ⟨ret_bool (Hno.out (plB_no (by omega))).symm, rfl⟩)
    · have hk' : s.data.toList.take k = s.data.toList := List.take_of_length_le (by simp; omega)
      have Hr : Hid (rightB s.data.toList = (decide (1 ≤ s.size) && decide (s.size ≤ 8))) := by
        show _ = _; rw [hk'] at hall; unfold rightB; rw [hall]; simp
      clear hk' hall
      by_cases h1 : 1 ≤ s.size <;> by_cases h8 : s.size ≤ 8
      all_goals first | (exfalso; omega) | skip
      all_goals
        go_wp2
        go_ret
        exact ⟨ret_bool (by rw [Hr.out]; simp [h1, h8] <;> omega), rfl⟩

set_option maxHeartbeats 400000 in
theorem Text_nat (s : ByteArray) (n : Nat) (w : World) (_hs : s.size ≤ maxLen) (hn : (n : Int) ≤ 1000000) :
    Calls Tryd.prog 6 #[.string s, .int .i64 n] w fun e w' => e = .returned (.string (s.extract 0 (min s.size n))) ∧ w = w' := by
  by_cases h : s.size ≤ n
  · have H : Hid (s.extract 0 (min s.size n) = s) := by show _ = _; rw [show min s.size n = s.size by omega]; simp
    go_enter Tryd.func6, Tryd.ntmps6
    go_wp2
    go_ret
    exact ⟨ret_str (by rw [H.out]), rfl⟩
  · have H : Hid (s.extract 0 (min s.size n) = s.extract 0 n) := by show _ = _; rw [show min s.size n = n by omega]
    go_enter Tryd.func6, Tryd.ntmps6
    go_wp2
    go_ret
    exact ⟨ret_str (by rw [H.out]), rfl⟩
theorem Text_any (s : ByteArray) (n : Int) (w : World) (hs : s.size ≤ maxLen) (h0 : 0 ≤ n) (hn : n ≤ 1000000) :
    Calls Tryd.prog 6 #[.string s, .int .i64 n] w fun e w' => e = .returned (.string (s.extract 0 (min s.size n.toNat))) ∧ w = w' := by
  obtain ⟨m, rfl⟩ := Int.eq_ofNat_of_zero_le h0
  exact Text_nat s m w hs hn
end Go.Proofs.YtnindodkcfkgoaaDoor
