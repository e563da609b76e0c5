/- The contract of life.Of at any slice that reads as a list of ints. -/
import Derived.Test.YtnhbdlgdpkejcaaK2
namespace Go.Proofs.Ytnhbdlgdpkejcaa
open Go.ChangeShapes Go.WideShapes Go.ChangeAt Go.RowKit

def ofS (at_ : Int) : List Int → Int
  | [] => at_
  | x :: xs => if mayB at_ x = true then ofS x xs else 0
def ints (xs : List Int) : List Value := xs.map (Value.int .i64)

theorem ofS_drop (a : Int) (xs : List Int) (k : Nat) (x : Int) (h : xs[k]? = some x) : ofS a (xs.drop k) = if mayB a x = true then ofS x (xs.drop (k + 1)) else 0 := by
  have hk : k < xs.length := (List.getElem?_eq_some_iff.1 h).1
  have hx : xs[k] = x := (List.getElem?_eq_some_iff.1 h).2
  rw [List.drop_eq_getElem_cons hk, hx]
  rfl

set_option maxHeartbeats 400000 in
theorem Of_any (A : Option Addr) (n c : Nat) (xs : List Int) (w : World) (hr : Reads w w.heap.size 1 A n (ints xs)) (hn : n ≤ 9223372036854775807) :
    Calls Try.prog 10 #[.slice A n c] w fun e w' => e = .returned (.int .i64 (ofS 1 xs)) ∧ w = w' := by
  have hlen : xs.length = n := by have := hr.1; simpa [ints] using this
  go_enter Try.func10, Try.ntmps10
  go_wp2
  go_loop [3, 8] (fun s i => ∃ (k : Nat) (a : Int), k ≤ n ∧ i = .int .i64 k ∧ s = .int .i64 a ∧ ofS 1 xs = ofS a (xs.drop k)) (fun _ i => n - (intOf i).toNat)
  case atStart => exact ⟨0, 1, by omega, rfl, rfl, rfl⟩
  case round =>
    obtain ⟨k, a, hk, rfl, rfl, hof⟩ := hrel
    by_cases hlt : k < n
    · obtain ⟨ad, u, rfl, _, hx, hc⟩ := hr.at_ hlt
      obtain ⟨x, hx1, rfl⟩ : ∃ x, xs[k]? = some x ∧ u = .int .i64 x := by
        simp only [ints, List.getElem?_map, Option.map_eq_some_iff] at hx
        obtain ⟨x, h1, h2⟩ := hx
        exact ⟨x, h1, h2.symm⟩
      have hs := ofS_drop a xs k x hx1
      rw [hs] at hof
      have Hof := Lib.hid hof
      have Hx := Lib.hid hx1
      have Hxx := Lib.hid hx
      have Hlen := Lib.hid hlen
      clear hof hx1 hs hx hlen
      by_cases hm : mayB a x = true
      · go_wp2_with (go_at_call 15; refine (May_any _ _ _).mono ?_; rintro e w' ⟨rfl, rfl⟩)
        go_round
        case rel => exact ⟨k + 1, x, by omega, by go_num, rfl, by rw [Hof.out, if_pos hm]⟩
        case measure => simp [intOf]; omega
      · have hm' : mayB a x = false := by simpa using hm
        have Hfin : Hid (ofS 1 xs = 0) := by rw [Hof.out, if_neg hm]; exact rfl
        clear hm
        go_wp2_with (go_at_call 15; refine (May_any _ _ _).mono ?_; rintro e w' ⟨rfl, rfl⟩)
        go_ret
        exact ⟨ret_int Hfin.out.symm, rfl⟩
    · have hk' : k = n := by omega
      have Hfin : Hid (ofS 1 xs = a) := by
        show ofS 1 xs = a
        rw [hof, List.drop_of_length_le (by omega)]; rfl
      clear hof hlen
      go_wp2
      go_ret
      exact ⟨ret_int Hfin.out.symm, rfl⟩

set_option maxHeartbeats 400000 in
theorem wakes9_any (w : World) :
    Calls Try.prog 11 #[] w fun e w' => e = .returned (.bool true) ∧ w = w' := by
  go_enter Try.func11, Try.ntmps11
  go_wp2_with (first | (go_at_call 10; refine (Of_any none 0 0 [] _ Reads.none_ (by omega)).mono ?_; rintro e w' ⟨rfl, rfl⟩) | (go_at_call 16; refine (Name_any _ _).mono ?_; rintro e w' ⟨rfl, rfl⟩))
  go_ret
  exact ⟨ret_bool (by decide +kernel), rfl⟩
end Go.Proofs.Ytnhbdlgdpkejcaa
