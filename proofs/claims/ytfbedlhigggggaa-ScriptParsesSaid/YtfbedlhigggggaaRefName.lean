/- Contracts of the plain answers Right and All, of Text, of name.Key. -/
import Derived.Test.YtfbedlhigggggaaAll
namespace Go.Proofs.Ytfbedlhigggggaa
open Go.ChangeShapes Go.WideShapes Go.ChangeAt Go.RowKit Go.Maps

set_option maxHeartbeats 1000000 in
theorem rRight_any (s : ByteArray) (w : World) (hs : s.size ≤ maxLen) :
    Calls Try.prog 48 #[.string s] w fun e w' => e = .returned (.bool (rightB s.data.toList)) ∧ w = w' := by
  unfold maxLen at hs
  go_enter Try.func48, Try.ntmps48
  go_wp2
  go_loop [3] (fun i => ∃ k : Nat, k ≤ s.size ∧ i = .int .i64 k ∧ (s.data.toList.take k).all plU = true) (fun i => s.size - (intOf i).toNat)
  case atStart => exact ⟨0, by omega, rfl, rfl⟩
  case round =>
    obtain ⟨k, hk, rfl, hall⟩ := hrel
    by_cases hlt : k < s.size
    · have hb : (s[k].toNat : Int) ≤ 255 := by have := s[k].toNat_lt; omega
      have Hs : Hid ((s.data.toList.take (k + 1)).all plU = plB (s[k].toNat : Int)) := by show _ = _; rw [all_take_snoc plU s k hlt, hall]; simp [plU]
      have Hno : Hid (plB (s[k].toNat : Int) = false → rightB s.data.toList = false) := fun h => by
        have h1 := all_of_take plU s k hlt h
        unfold rightB; rw [h1]; simp
      clear hall
      by_cases a1 : 97 ≤ (s[k].toNat : Int) <;> by_cases a2 : (s[k].toNat : Int) ≤ 122 <;> by_cases a3 : 48 ≤ (s[k].toNat : Int) <;> by_cases a4 : (s[k].toNat : Int) ≤ 57
      all_goals first | (exfalso; omega) | skip
      all_goals go_wp2
      all_goals first
        | (go_round
           case rel => exact ⟨k + 1, by omega, by go_num, by rw [Hs.out]; exact plB_yes (by omega)⟩
           case measure => simp [intOf]; omega)
        | (go_ret
           exact ⟨ret_bool (Hno.out (plB_no (by omega))).symm, rfl⟩)
    · have hk' : s.data.toList.take k = s.data.toList := List.take_of_length_le (by simp; omega)
      have Hr : Hid (rightB s.data.toList = (decide (1 ≤ s.size) && decide (s.size ≤ 8))) := by
        show _ = _; rw [hk'] at hall; unfold rightB; rw [hall]; simp
      clear hk' hall
      by_cases h1 : 1 ≤ s.size <;> by_cases h8 : s.size ≤ 8
      all_goals first | (exfalso; omega) | skip
      all_goals
        go_wp2
        go_ret
        exact ⟨ret_bool (by rw [Hr.out]; simp [h1, h8] <;> omega), rfl⟩

set_option maxHeartbeats 400000 in
theorem Text_nat (s : ByteArray) (n : Nat) (w : World) (_hs : s.size ≤ maxLen) (hn : (n : Int) ≤ 1000000) :
    Calls Try.prog 8 #[.string s, .int .i64 n] w fun e w' => e = .returned (.string (s.extract 0 (min s.size n))) ∧ w = w' := by
  by_cases h : s.size ≤ n
  · have H : Hid (s.extract 0 (min s.size n) = s) := by show _ = _; rw [show min s.size n = s.size by omega]; simp
    go_enter Try.func8, Try.ntmps8
    go_wp2
    go_ret
    exact ⟨ret_str (by rw [H.out]), rfl⟩
  · have H : Hid (s.extract 0 (min s.size n) = s.extract 0 n) := by show _ = _; rw [show min s.size n = n by omega]
    go_enter Try.func8, Try.ntmps8
    go_wp2
    go_ret
    exact ⟨ret_str (by rw [H.out]), rfl⟩
theorem Text_any (s : ByteArray) (n : Int) (w : World) (hs : s.size ≤ maxLen) (h0 : 0 ≤ n) (hn : n ≤ 1000000) :
    Calls Try.prog 8 #[.string s, .int .i64 n] w fun e w' => e = .returned (.string (s.extract 0 (min s.size n.toNat))) ∧ w = w' := by
  obtain ⟨m, rfl⟩ := Int.eq_ofNat_of_zero_le h0
  exact Text_nat s m w hs hn
theorem okAt_eq (xs : List ByteArray) (k : Nat) (s : ByteArray) (h : xs[k]? = some s) : okAt xs k = (rightB s.data.toList && !((xs.take k).any fun t => decide (t.data.toList = s.data.toList))) := by
  unfold okAt; rw [List.getD, h]; rfl
theorem no_twin (xs : List ByteArray) (k : Nat) (s : ByteArray) (h : ∀ j t, j < k → xs[j]? = some t → t.data.toList ≠ s.data.toList) : ((xs.take k).any fun t => decide (t.data.toList = s.data.toList)) = false := by
  rw [List.any_eq_false]
  intro t ht
  obtain ⟨j, hj⟩ := List.mem_iff_getElem?.1 ht
  rw [List.getElem?_take] at hj
  by_cases hjk : j < k
  · rw [if_pos hjk] at hj; simpa using h j t hjk hj
  · rw [if_neg hjk] at hj; cases hj
theorem twin (xs : List ByteArray) (k j : Nat) (s t : ByteArray) (hj : j < k) (ht : xs[j]? = some t) (h : t.data.toList = s.data.toList) : ((xs.take k).any fun t => decide (t.data.toList = s.data.toList)) = true := by
  rw [List.any_eq_true]
  exact ⟨t, List.mem_iff_getElem?.2 ⟨j, by rw [List.getElem?_take, if_pos hj]; exact ht⟩, by simpa using h⟩
theorem strs_at {w : World} {B n k : Nat} {A : Option Addr} {xs : List ByteArray} (hr : Reads w B 1 A n (xs.map Value.string)) (hk : k < n) : ∃ ad s, A = some ad ∧ xs[k]? = some s ∧ w.cell? (ad.add k) = some (.string s) := by
  obtain ⟨ad, u, rfl, _, hx, hc⟩ := hr.at_ hk
  simp only [List.getElem?_map, Option.map_eq_some_iff] at hx
  obtain ⟨x, h1, h2⟩ := hx
  exact ⟨ad, x, rfl, h1, by rw [hc, h2]⟩
set_option maxRecDepth 100000 in
set_option maxHeartbeats 2000000 in
theorem rAll_any (A : Option Addr) (n c : Nat) (xs : List ByteArray) (w : World) (hr : Reads w w.heap.size 1 A n (xs.map Value.string)) (hn : n ≤ 9223372036854775807) (hsz : ∀ s ∈ xs, s.size ≤ maxLen) :
    Calls Try.prog 50 #[.slice A n c] w fun e w' => e = .returned (.bool (allB xs)) ∧ Below w.heap.size w w' := by
  have hlen : xs.length = n := by have := hr.1; simpa using this
  have HL := Lib.hid hlen
  clear hlen
  go_enter Try.func50, Try.ntmps50
  go_wp2
  go_loopw [7] (fun i wr => ∃ k : Nat, k ≤ n ∧ i = .int .i64 k ∧ Below w.heap.size w wr ∧ Hid (∀ i, i < k → okAt xs i = true)) (fun i _ => n - (intOf i).toNat)
  case atStart => exact ⟨0, Nat.zero_le _, rfl, Below.refl _ _, fun i hi => absurd hi (by omega)⟩
  case round =>
    obtain ⟨k, hk, rfl, hbel, Hall⟩ := hrel
    by_cases hlt : k < n
    · obtain ⟨ad, s, rfl, hx, hc⟩ := strs_at (hr.below hbel) hlt
      have hss := hsz s (List.mem_of_getElem? hx)
      have Hok := Lib.hid (okAt_eq xs k s hx)
      have Hx := Lib.hid hx
      clear hx
      by_cases hp : rightB s.data.toList = true
      · go_wp2_with (go_at_call 48; refine (rRight_any _ _ hss).mono ?_; rintro e w' ⟨rfl, rfl⟩)
        obtain ⟨wo, rfl⟩ : ∃ wo : World, wo = wr := ⟨_, rfl⟩
        go_loopw [4] (fun j wi => ∃ m : Nat, m ≤ k ∧ j = .int .i64 m ∧ Below w.heap.size w wi ∧ Hid (∀ i t, i < m → xs[i]? = some t → t.data.toList ≠ s.data.toList)) (fun j _ => k - (intOf j).toNat)
        case atStart => exact ⟨0, Nat.zero_le _, rfl, hbel, fun i t hi => absurd hi (by omega)⟩
        case round =>
          obtain ⟨m, hm, rfl, hbel2, Hne⟩ := hrel
          by_cases hmk : m < k
          · obtain ⟨ad2, t, e2, hx2, hc2⟩ := strs_at (hr.below hbel2) (show m < n by omega)
            obtain ⟨ad3, s3, e3, hx3, hc3⟩ := strs_at (hr.below hbel2) hlt
            cases e2
            cases e3
            obtain rfl : s3 = s := by have := Hx.out; rw [hx3] at this; injection this
            have Hx2 := Lib.hid hx2
            clear hx2 hx3 hc
            have k1 : (m : Int) < (n : Int) := by omega
            have k2 : (k : Int) < (n : Int) := by omega
            by_cases he : t.toList = s3.toList
            · have heb : (t.toList == s3.toList) = true := by rw [he]; simp
              have Hno : Hid (allB xs = false) := allB_no (by rw [HL.out]; exact hlt) (by rw [Hok.out, twin xs k m s3 t hmk Hx2.out (by rw [← ByteArray.toList_eq, ← ByteArray.toList_eq]; exact he)]; simp)
              clear he
              go_wp2
              go_quiet (fail)
              go_wp2
              go_ret
              exact ⟨ret_bool Hno.out.symm, below_drewN hbel2 _⟩
            · have heb : (t.toList == s3.toList) = false := by simpa using he
              have Hne2 : Hid (t.data.toList ≠ s3.data.toList) := by show _ ≠ _; rw [← ByteArray.toList_eq, ← ByteArray.toList_eq]; exact he
              clear he
              go_wp2
              go_quiet (fail)
              go_wp2
              go_roundw
              case rel => exact ⟨m + 1, by omega, by go_num, below_drewN hbel2 _, fun i t' hi ht => by rcases Nat.lt_succ_iff_lt_or_eq.1 hi with h | h; exact Hne.out i t' h ht; subst h; rw [Hx2.out] at ht; cases ht; exact Hne2.out⟩
              case measure => simp [intOf]; omega
          · have hmk' : m = k := by omega
            subst hmk'
            have Hyes : Hid (okAt xs m = true) := by show _ = _; rw [Hok.out, hp, no_twin xs m s Hne.out]; rfl
            go_wp2
            go_roundw
            case rel => exact ⟨m + 1, by omega, by go_num, hbel2, fun i hi => by rcases Nat.lt_succ_iff_lt_or_eq.1 hi with h | h; exact Hall.out i h; subst h; exact Hyes.out⟩
            case measure => simp [intOf]; omega
      · have hp' : rightB s.data.toList = false := by simpa using hp
        have Hno : Hid (allB xs = false) := allB_no (by rw [HL.out]; exact hlt) (by rw [Hok.out, hp']; rfl)
        clear hp
        go_wp2_with (go_at_call 48; refine (rRight_any _ _ hss).mono ?_; rintro e w' ⟨rfl, rfl⟩)
        go_ret
        exact ⟨ret_bool Hno.out.symm, hbel⟩
    · have Hyes : Hid (allB xs = true) := allB_yes (fun i hi => Hall.out i (by rw [HL.out] at hi; omega))
      go_wp2
      go_ret
      exact ⟨ret_bool Hyes.out.symm, hbel⟩
end Go.Proofs.Ytfbedlhigggggaa
