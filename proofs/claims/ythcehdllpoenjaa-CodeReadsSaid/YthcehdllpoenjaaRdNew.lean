/- The contract of code.New: a reader over a copy of the bytes. -/
import Derived.Test.YthcehdllpoenjaaRdText
namespace Go.Proofs.Ythcehdllpoenjaa
open Go.ChangeShapes Go.WideShapes Go.ChangeAt Go.RowKit
set_option maxRecDepth 100000 in
set_option maxHeartbeats 1000000 in
theorem New_any (A : Option Addr) (n cp B : Nat) (l : List UInt8) (w : World) (hr : Reads w B 1 A n (bytesV l)) (hn : (n : Int) ≤ 140737488355000) :
    Calls Try.prog 12 #[.slice A n cp] w fun e w' => ∃ g A' cp', e = .returned (.pointer (some ⟨g, 0, none⟩)) ∧ w.heap.size ≤ g ∧ Blk w' g 47 #[.slice A' n cp', .int .i64 0, .bool false] ∧ n ≤ cp' ∧ cp' ≤ maxLen ∧ (∀ w2, w'.grownBy w2 (some g) → Reads w2 w'.heap.size 1 A' n (bytesV l)) ∧ Below w.heap.size w w' := by
  obtain ⟨i0, hi, hz0, hz1, hz2⟩ := info_parts byte_info
  go_enter Try.func12, Try.ntmps12
  go_wp2_with (first | (at_builtin; go_must (refine wpList_append_any _ rfl _ _ 22 rfl w.heap.size 5 i0 (.int .u8 0) 1 1 Try.underlying22 hi hz0 hz1 hz2 rfl (by decide) (.slice none 0 0) 0 [] rfl ⟨by simp, .inl ⟨rfl, rfl⟩⟩ B A n cp (bytesV l) rfl hr (by simp [bytesV, Value.oneCell']) (by simp only [maxLen]; omega) (by omega) (Nat.le_refl _) ?_); intro v1 w1 hown1 hg1 _hne; clear _hne; rw [Nat.zero_add, List.nil_append] at hown1; obtain ⟨A1, c1, rfl, hc1, hcm⟩ := own_slice hown1))
  go_ret
  have h1 := Reads.of_own hown1
  refine ⟨w1.heap.size, A1, c1, rfl, hg1.size, Blk.new _ _ _, hc1, hcm, fun w2 hg2 => ?_, ?_⟩
  · have h2 := h1.alloc (Nat.le_refl _) (.cells #[.slice A1 n c1, .int .i64 0, .bool false] 47)
    have hs : (w1.alloc (.cells #[.slice A1 n c1, .int .i64 0, .bool false] 47)).heap.size = w1.heap.size + 1 := by simp
    exact (h2.keep (fun p hp => hg2.cell_far p (by omega) (by intro h; injection h with h; omega))).more (by omega)
  · exact ((Below.refl _ _).grown hg1 (Nat.le_refl _) (fun k hk => by cases hk)).alloc hg1.size _
end Go.Proofs.Ythcehdllpoenjaa
