/- Contracts of package name (Right, plain), and of the plain answer Right: a name is 1 to 8 small letters and figures. -/
import Derived.Test.YtfbedlhigggggaaWithin
namespace Go.Proofs.Ytfbedlhigggggaa
open Go.ChangeShapes Go.WideShapes Go.ChangeAt Go.RowKit

def plB (c : Int) : Bool := (decide (97 ≤ c) && decide (c ≤ 122)) || (decide (48 ≤ c) && decide (c ≤ 57))
def plU (c : UInt8) : Bool := plB (c.toNat : Int)
def rightB (l : List UInt8) : Bool := decide (1 ≤ l.length) && decide (l.length ≤ 8) && l.all plU
theorem plB_yes {c : Int} (h : 97 ≤ c ∧ c ≤ 122 ∨ 48 ≤ c ∧ c ≤ 57) : plB c = true := by simp [plB]; omega
theorem plB_no {c : Int} (h : ¬ (97 ≤ c ∧ c ≤ 122 ∨ 48 ≤ c ∧ c ≤ 57)) : plB c = false := by
  have : ¬ plB c = true := by simp [plB]; omega
  simpa using this
theorem take_snoc (s : ByteArray) (k : Nat) (h : k < s.size) : s.data.toList.take (k + 1) = s.data.toList.take k ++ [s[k]] := by
  rw [List.take_succ_eq_append_getElem (by simpa using h)]; rfl
theorem all_take_snoc (p : UInt8 → Bool) (s : ByteArray) (k : Nat) (h : k < s.size) : (s.data.toList.take (k + 1)).all p = ((s.data.toList.take k).all p && p s[k]) := by
  rw [take_snoc s k h, List.all_append]; simp
theorem all_of_take (p : UInt8 → Bool) (s : ByteArray) (k : Nat) (h : k < s.size) (hp : p s[k] = false) : s.data.toList.all p = false := by
  rw [List.all_eq_false]
  exact ⟨s[k], by have : s[k] = s.data.toList[k]'(by simpa using h) := rfl
                  rw [this]; exact List.getElem_mem _, by simpa using hp⟩

set_option maxHeartbeats 400000 in
theorem plain_any (c : Int) (w : World) (h0 : 0 ≤ c) (h1 : c ≤ 255) :
    Calls Try.prog 60 #[.int .u8 c] w fun e w' => e = .returned (.bool (plB c)) ∧ w = w' := by
  by_cases a1 : 97 ≤ c <;> by_cases a2 : c ≤ 122 <;> by_cases a3 : 48 ≤ c <;> by_cases a4 : c ≤ 57
  all_goals first | (exfalso; omega) | skip
  all_goals
    go_enter Try.func60, Try.ntmps60
    go_wp2
    go_ret
    exact ⟨ret_bool (by first | (rw [plB_yes (by omega)]; done) | (rw [plB_no (by omega)]; done) | (rw [plB_yes (by omega)]; simp; omega) | (rw [plB_no (by omega)]; simp; omega)), rfl⟩

set_option maxHeartbeats 400000 in
theorem Right_any (s : ByteArray) (w : World) (hs : s.size ≤ maxLen) :
    Calls Try.prog 55 #[.string s] w fun e w' => e = .returned (.bool (rightB s.data.toList)) ∧ w = w' := by
  unfold maxLen at hs
  by_cases hl : 1 ≤ s.size ∧ s.size ≤ 8
  · obtain ⟨hl1, hl2⟩ := hl
    have Hr : Hid (rightB s.data.toList = s.data.toList.all plU) := by show _ = _; simp [rightB, hl1, hl2]
    go_enter Try.func55, Try.ntmps55
    go_wp2
    go_loop [14] (fun i => ∃ k : Nat, k ≤ s.size ∧ i = .int .i64 k ∧ (s.data.toList.take k).all plU = true) (fun i => s.size - (intOf i).toNat)
    case atStart => exact ⟨0, by omega, rfl, rfl⟩
    case round =>
      obtain ⟨k, hk, rfl, hall⟩ := hrel
      by_cases hlt : k < s.size
      · have hb : (s[k].toNat : Int) ≤ 255 := by have := s[k].toNat_lt; omega
        have Hs : Hid ((s.data.toList.take (k + 1)).all plU = plB (s[k].toNat : Int)) := by show _ = _; rw [all_take_snoc plU s k hlt, hall]; simp [plU]
        clear hall
        by_cases hp : plB (s[k].toNat : Int) = true
        · go_wp2_with (go_at_call 60; refine (plain_any _ _ (by omega) (by omega)).mono ?_; rintro e w' ⟨rfl, rfl⟩)
          go_round
          case rel => exact ⟨k + 1, by omega, by go_num, by rw [Hs.out]; exact hp⟩
          case measure => simp [intOf]; omega
        · have hp' : plB (s[k].toNat : Int) = false := by simpa using hp
          have Hf : Hid (rightB s.data.toList = false) := by show _ = _; rw [Hr.out]; exact all_of_take plU s k hlt hp'
          clear hp
          go_wp2_with (go_at_call 60; refine (plain_any _ _ (by omega) (by omega)).mono ?_; rintro e w' ⟨rfl, rfl⟩)
          go_ret
          exact ⟨ret_bool Hf.out.symm, rfl⟩
      · have hk' : s.data.toList.take k = s.data.toList := List.take_of_length_le (by simp; omega)
        have Hf : Hid (rightB s.data.toList = true) := by show _ = _; rw [Hr.out, ← hk']; exact hall
        clear hk' hall
        go_wp2
        go_ret
        exact ⟨ret_bool Hf.out.symm, rfl⟩
  · have hr : rightB s.data.toList = false := by
      have : ¬ rightB s.data.toList = true := by simp [rightB]; omega
      simpa using this
    rw [hr]
    clear hr
    by_cases hl1 : s.size < 1
    · go_enter Try.func55, Try.ntmps55
      go_wp2
      go_ret
      exact ⟨rfl, rfl⟩
    · have hl2 : 8 < s.size := by omega
      go_enter Try.func55, Try.ntmps55
      go_wp2
      go_ret
      exact ⟨rfl, rfl⟩
end Go.Proofs.Ytfbedlhigggggaa
