/- The contract of hostlerkeep.Same at numbers: are two lists the same? -/
import Derived.Test.YtiflhfhonhbcpaaWithin
namespace Go.Proofs.Ytiflhfhonhbcpaa
open Go.ChangeShapes Go.WideShapes Go.ChangeAt Go.RowKit
theorem ints_atI {w : World} {B n k : Nat} {q : IntKind} {A : Option Addr} {xs : List Int} (hr : Reads w B 1 A n (xs.map (Value.int q))) (hk : k < n) : ∃ ad x, A = some ad ∧ xs[k]? = some x ∧ w.cell? (ad.add k) = some (.int q x) := by
  obtain ⟨ad, u, rfl, _, hx, hc⟩ := hr.at_ hk
  simp only [List.getElem?_map, Option.map_eq_some_iff] at hx
  obtain ⟨x, h1, h2⟩ := hx
  exact ⟨ad, x, rfl, h1, by rw [hc, h2]⟩
set_option maxRecDepth 100000 in
set_option maxHeartbeats 1000000 in
theorem SameI (A A' : Option Addr) (n c n' c' : Nat) (xs ys : List Int) (B B' : Nat) (w : World) (hB : B ≤ w.heap.size) (hB' : B' ≤ w.heap.size) (hr : Reads w B 1 A n (xs.map (Value.int .i64))) (hr' : Reads w B' 1 A' n' (ys.map (Value.int .i64))) (hn : n ≤ 9223372036854775807) (hn' : n' ≤ 9223372036854775807) :
    Calls Try.prog 21 #[.slice A n c, .slice A' n' c'] w fun e w' => e = .returned (.bool (decide (xs = ys))) ∧ Below w.heap.size w w' := by
  have hl : xs.length = n := by have := hr.1; simpa using this
  have hl' : ys.length = n' := by have := hr'.1; simpa using this
  by_cases hnn : n = n'
  · subst hnn
    have HL := Lib.hid hl
    have HL' := Lib.hid hl'
    clear hl hl'
    go_enter Try.func21, Try.ntmps21
    go_wp2_with fail
    go_loopw [5] (fun i wr => ∃ k : Nat, k ≤ n ∧ i = .int .i64 k ∧ Below w.heap.size w wr ∧ Hid (xs.take k = ys.take k)) (fun i _ => n - (intOf i).toNat)
    case atStart => exact ⟨0, Nat.zero_le _, rfl, Below.refl _ _, rfl⟩
    case round =>
      obtain ⟨k, hk, rfl, hbel, Htk⟩ := hrel
      by_cases hlt : k < n
      · obtain ⟨ad, x, rfl, hx, hc⟩ := ints_atI ((hr.more hB).below hbel) hlt
        obtain ⟨ad', y, rfl, hy, hc'⟩ := ints_atI ((hr'.more hB').below hbel) hlt
        have HX := Lib.hid hx
        have HY := Lib.hid hy
        clear hx hy
        have k1 : (k : Int) < (n : Int) := by omega
        by_cases he : x = y
        · subst he
          have Hs : Hid (xs.take (k + 1) = ys.take (k + 1)) := by
            show _ = _
            rw [List.take_add_one, List.take_add_one, HX.out, HY.out, Htk.out]
          go_wp2
          go_quiet (fail)
          go_wp2
          go_roundw
          case rel => exact ⟨k + 1, by omega, by go_num, below_drewN hbel _, Hs.out⟩
          case measure => simp [intOf]; omega
        · have heb : (x != y) = true := by simpa using he
          have Hno : Hid (decide (xs = ys) = false) := by
            show _ = _
            rw [decide_eq_false_iff_not]
            intro e
            have h1 := HX.out
            rw [e, HY.out] at h1
            exact he (by injection h1 with h; exact h.symm)
          clear he
          go_wp2
          go_quiet (fail)
          go_wp2
          go_ret
          exact ⟨ret_bool Hno.out.symm, below_drewN hbel _⟩
      · have Hyes : Hid (decide (xs = ys) = true) := by
          show _ = _
          rw [decide_eq_true_eq]
          have h := Htk.out
          rwa [List.take_of_length_le (by have := HL.out; omega), List.take_of_length_le (by have := HL'.out; omega)] at h
        go_wp2
        go_ret
        exact ⟨ret_bool Hyes.out.symm, hbel⟩
  · have hne : decide (xs = ys) = false := by simp; rintro rfl; exact hnn (hl.symm.trans hl')
    rw [hne]
    have hb : ((n : Int) != (n' : Int)) = true := by simp; omega
    have hb2 : (n != n') = true := by simpa using hnn
    clear hl hl'
    go_enter Try.func21, Try.ntmps21
    go_wp2
    go_ret
    exact ⟨rfl, Below.refl _ _⟩
end Go.Proofs.Ytiflhfhonhbcpaa
