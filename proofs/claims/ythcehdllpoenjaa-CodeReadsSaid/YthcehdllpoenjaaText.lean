/- Contracts of code.Text and of the plain answer Text: a string as bytes, its length ahead of it. -/
import Derived.Test.YthcehdllpoenjaaNumber
import Derived.Lib.AppendStr
namespace Go.Proofs.Ythcehdllpoenjaa
open Go.ChangeShapes Go.WideShapes Go.ChangeAt Go.RowKit

def textL (s : ByteArray) : List UInt8 := if s.size ≤ 200 then numL s.size ++ s.data.toList else []
theorem numZ_nat (k : Nat) (h : k ≤ 200) : numZ (k : Int) = numL k := by
  unfold numZ
  rw [if_pos (by omega), Int.toNat_natCast]
theorem textL_len (s : ByteArray) : (textL s).length ≤ 206 := by
  unfold textL
  split
  · have := numF_len 5 s.size
    have e : s.data.toList.length = s.size := by simp
    unfold numL; simp only [List.length_append]; omega
  · simp

set_option maxRecDepth 100000 in
set_option maxHeartbeats 1000000 in
theorem Text_any (s : ByteArray) (w : World) :
    Calls Try.prog 24 #[.string s] w fun e w' => ∃ v, e = .returned v ∧ w'.ownsRow w.heap.size 5 1 v (textL s).length (bytesV (textL s)) ∧ Below w.heap.size w w' := by
  obtain ⟨i0, hi, hz0, hz1, hz2⟩ := info_parts byte_info
  by_cases h : s.size ≤ 200
  · have Ht : Hid (textL s = numL s.size ++ s.data.toList) := by show _ = _; unfold textL; rw [if_pos h]
    have HN : Hid ((numL s.size).length ≤ 6) := (numF_len 5 s.size).2
    have hk : (s.size : Int) ≤ 200 := by omega
    have H200 := Lib.hid h
    clear h
    go_enter Try.func24, Try.ntmps24
    go_wp2_with (first | (go_at_call 23; refine (Number_any _ _).mono ?_; rintro e w1 ⟨v1, rfl, hown, hbel⟩; rw [numZ_nat s.size H200.out] at hown; have hsz := hbel.size) | (at_builtin; go_must (refine Lib.wpList_append_own_string _ rfl _ _ 22 9 rfl w.heap.size 5 i0 Try.underlying22 Try.underlying9 hi hz0 hz1 hz2 _ _ _ rfl hown s rfl (by have := H200.out; have := HN.out; simp only [maxLen]; omega) (by have := H200.out; have := HN.out; omega) hsz ?_); intro v2 w2 hown2 hg2 _hne; have hbel2 : Below w.heap.size w w2 := hbel.grown hg2 hsz (fun k hk => (hown.lt k hk).1); clear hg2 _hne))
    go_ret
    exact ⟨v2, rfl, by rw [Ht.out]; simpa [bytesV, Lib.strCells] using hown2, hbel2⟩
  · have Ht : Hid (textL s = []) := by show _ = _; unfold textL; rw [if_neg h]
    have hk : 200 < (s.size : Int) := by omega
    clear h
    go_enter Try.func24, Try.ntmps24
    go_wp2
    go_ret
    exact ⟨_, rfl, by rw [Ht.out]; exact ⟨by simp [bytesV], .inl ⟨rfl, rfl⟩⟩, Below.refl _ _⟩

set_option maxRecDepth 100000 in
set_option maxHeartbeats 1000000 in
theorem rText_any (s : ByteArray) (w : World) :
    Calls Try.prog 8 #[.string s] w fun e w' => ∃ v, e = .returned v ∧ w'.ownsRow w.heap.size 5 1 v (textL s).length (bytesV (textL s)) ∧ Below w.heap.size w w' := by
  obtain ⟨i0, hi, hz0, hz1, hz2⟩ := info_parts byte_info
  by_cases h : s.size ≤ 200
  · have Ht : Hid (textL s = numL s.size ++ s.data.toList) := by show _ = _; unfold textL; rw [if_pos h]
    have HN : Hid ((numL s.size).length ≤ 6) := (numF_len 5 s.size).2
    have hk : (s.size : Int) ≤ 200 := by omega
    have H200 := Lib.hid h
    clear h
    go_enter Try.func8, Try.ntmps8
    go_wp2_with (first | (go_at_call 6; refine (rNumber_any _ _).mono ?_; rintro e w1 ⟨v1, rfl, hown, hbel⟩; rw [numZ_nat s.size H200.out] at hown; have hsz := hbel.size) | (at_builtin; go_must (refine Lib.wpList_append_own_string _ rfl _ _ 22 9 rfl w.heap.size 5 i0 Try.underlying22 Try.underlying9 hi hz0 hz1 hz2 _ _ _ rfl hown s rfl (by have := H200.out; have := HN.out; simp only [maxLen]; omega) (by have := H200.out; have := HN.out; omega) hsz ?_); intro v2 w2 hown2 hg2 _hne; have hbel2 : Below w.heap.size w w2 := hbel.grown hg2 hsz (fun k hk => (hown.lt k hk).1); clear hg2 _hne))
    go_ret
    exact ⟨v2, rfl, by rw [Ht.out]; simpa [bytesV, Lib.strCells] using hown2, hbel2⟩
  · have Ht : Hid (textL s = []) := by show _ = _; unfold textL; rw [if_neg h]
    have hk : 200 < (s.size : Int) := by omega
    clear h
    go_enter Try.func8, Try.ntmps8
    go_wp2
    go_ret
    exact ⟨_, rfl, by rw [Ht.out]; exact ⟨by simp [bytesV], .inl ⟨rfl, rfl⟩⟩, Below.refl _ _⟩
end Go.Proofs.Ythcehdllpoenjaa
