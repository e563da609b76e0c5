/- The states that the law hands in. -/
import Derived.Test.YtlljepgfecodoaaTkE
namespace Go.Proofs.Ytlljepgfecodoaa.Tk
open Go Go.RowKit Go.Proofs.Ytlljepgfecodoaa Go.Proofs.Ytlljepgfecodoaa.Crw Go.ChangeShapes Go.WideShapes Go.ChangeAt
set_option linter.unusedVariables false
set_option maxRecDepth 100000
/-- The i-th task's name, as the law cuts it. -/
abbrev nm (i : Nat) : ByteArray := ((⟨#[97, 98, 99, 100, 101, 102, 103, 104]⟩ : ByteArray).extract i 8).extract 0 1
theorem nm_data (i : Nat) (hi : i < 8) : (nm i).data = #[(97 + i).toUInt8] := by
  have h8 : i = 0 ∨ i = 1 ∨ i = 2 ∨ i = 3 ∨ i = 4 ∨ i = 5 ∨ i = 6 ∨ i = 7 := by omega
  rcases h8 with rfl | rfl | rfl | rfl | rfl | rfl | rfl | rfl <;> decide +kernel
theorem toList_data (b : ByteArray) : b.toList = b.data.toList := by
  obtain ⟨⟨l⟩⟩ := b
  simp
theorem nm_eq (i j : Nat) (hi : i < 8) (hj : j < 8) : ((nm i).toList == (nm j).toList) = decide (i = j) := by
  rw [toList_data, toList_data, nm_data i hi, nm_data j hj]
  have hi8 : i = 0 ∨ i = 1 ∨ i = 2 ∨ i = 3 ∨ i = 4 ∨ i = 5 ∨ i = 6 ∨ i = 7 := by omega
  have hj8 : j = 0 ∨ j = 1 ∨ j = 2 ∨ j = 3 ∨ j = 4 ∨ j = 5 ∨ j = 6 ∨ j = 7 := by omega
  rcases hi8 with rfl | rfl | rfl | rfl | rfl | rfl | rfl | rfl <;> rcases hj8 with rfl | rfl | rfl | rfl | rfl | rfl | rfl | rfl <;> decide
theorem St0 (x : Tr) (w : World) : Calls Try.prog 8 #[keyV x] w fun e w' => e = .returned (.int .i64 2) ∧ Below w.heap.size w w' := by
  go_enter Try.func8, Try.ntmps8
  go_wp2
  go_ret
  exact ⟨rfl, by first | exact Below.refl _ _ | exact (Below.refl _ _).alloc (Nat.le_refl _) _⟩
set_option maxHeartbeats 4000000 in
theorem St1 (x : Tr) (g k : Nat) (w : World) (hk : k < 8) (hc : w.cell? ⟨g, 0, none⟩ = some (.int .i64 k)) : Calls Try.prog 10 #[keyV x, .pointer (some ⟨g, 0, none⟩)] w fun e w' => e = .returned (.int .i64 (if x.t.toList == (nm k).toList then 3 else 1)) ∧ Below w.heap.size w w' := by
  obtain ⟨gb, hgb⟩ : ∃ g, g = w.heap.size := ⟨_, rfl⟩
  obtain ⟨W, hW⟩ : ∃ W, W = w.alloc (.cells #[.string ⟨#[102]⟩, .string x.t] 36) := ⟨_, rfl⟩
  have hb : Below w.heap.size w W := by rw [hW]; exact (Below.refl _ _).alloc (Nat.le_refl _) _
  have hbx : Blk W gb 36 #[.string ⟨#[102]⟩, .string x.t] := by rw [hW, hgb]; exact Blk.new _ _ _
  have hcW : W.cell? ⟨g, 0, none⟩ = some (.int .i64 k) := (hb.cell (p := ⟨g, 0, none⟩) (World.block_lt_of_cell? _ _ hc)).trans hc
  have b1 := hbx.cell 1
  have HW := Lib.hid (And.intro hW hgb)
  have HB := Lib.hid hb
  clear hc hb hbx hW hgb
  have hk0 : (0 : Int) ≤ (k : Int) := by omega
  have hk8 : (k : Int) ≤ 8 := by omega
  have hk9 : k ≤ 8 := by omega
  have hk1 : (1 : Int) ≤ ((8 - k : Nat) : Int) := by omega
  clear hk
  cases hq : (x.t.toList == (nm k).toList) with
  | true =>
    go_enter Try.func10, Try.ntmps10
    go_upto_region 1 with fail
    rw [← HW.out.1, ← HW.out.2]
    go_wp2_with fail
    go_region
    go_wp2_with fail
    go_ret
    exact ⟨rfl, HB.out.drew⟩
  | false =>
    go_enter Try.func10, Try.ntmps10
    go_upto_region 1 with fail
    rw [← HW.out.1, ← HW.out.2]
    go_wp2_with fail
    go_region
    go_wp2_with fail
    go_ret
    exact ⟨rfl, HB.out.drew⟩
end Go.Proofs.Ytlljepgfecodoaa.Tk
