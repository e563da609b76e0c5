/- The hands hear that a run is started; how many live. -/
import Derived.Test.YtiflhfhonhbcpaaHan3
namespace Go.Proofs.Ytiflhfhonhbcpaa.Han
open Go Go.RowKit Go.Proofs.Ytiflhfhonhbcpaa Go.Proofs.Ytiflhfhonhbcpaa.Crw Go.Proofs.Ytiflhfhonhbcpaa.Mas Go.ChangeShapes Go.WideShapes Go.ChangeAt
set_option linter.unusedVariables false
set_option maxRecDepth 100000
section
variable {w w' : World} {B h xb sb kb : Nat} {V U : Nat → Prop} {R : List Pr} {S : List Int} {v : Value}
set_option maxHeartbeats 8000000 in
theorem Hear_yes (H : HnP w B h xb sb kb V R S v) {n : Int} (hn : n ∈ S) :
    Calls Try.prog 11 #[.pointer (some ⟨h, 0, none⟩), .agg (abC 13 n)] w fun r w' => r = .returned (.slice none 0 0) ∧ Below w.heap.size w w' := by
  obtain ⟨W, hW⟩ : ∃ W, W = (w.alloc (.cells (abC 13 n) 30)).alloc (.cells #[.string rF, .string rE, .int .i64 n] 90) := ⟨_, rfl⟩
  have hb : Below w.heap.size w W := by rw [hW]; exact ((Below.refl _ _).alloc (Nat.le_refl _) _).alloc (by simp) _
  have hC := Start_yes (H.below hb) hn
  have HW := Lib.hid hW
  have HB := Lib.hid hb
  clear hW hb H hn
  go_enter Try.func11, Try.ntmps11
  go_upto_region 4 with fail
  rw [← HW.out]
  obtain ⟨a, ha⟩ : ∃ a, a = w.heap.size := ⟨_, rfl⟩
  have hk1 : Blk W (a + 1) 90 #[.string rF, .string rE, .int .i64 n] := by
    rw [HW.out, ha]
    have := Blk.new (w.alloc (.cells (abC 13 n) 30)) 90 #[.string rF, .string rE, .int .i64 n]
    simpa using this
  have k0 : W.cell? ⟨w.heap.size + 1, 0, none⟩ = some (.string rF) := by rw [← ha]; exact hk1.cell 0
  have k1 : W.cell? ⟨w.heap.size + 1, 1, none⟩ = some (.string rE) := by rw [← ha]; exact hk1.cell 1
  have k2 : W.cell? ⟨w.heap.size + 1, 2, none⟩ = some (.int .i64 n) := by rw [← ha]; exact hk1.cell 2
  clear ha hk1
  go_wp2_with (go_at_call 44; refine hC.mono ?_; rintro r w1 ⟨rfl, hb1⟩)
  go_ret
  exact ⟨rfl, HB.out.trans (hb1.mono HB.out.size)⟩
set_option maxHeartbeats 8000000 in
theorem Hear_no (H : HnP w B h xb sb kb V R S v) {n : Int} (hn : n ∉ S) (hl : R.length ≤ 100) :
    Calls Try.prog 11 #[.pointer (some ⟨h, 0, none⟩), .agg (abC 13 n)] w fun r w' => ∃ c V' v' g, r = .returned (.slice (some ⟨c, 0, none⟩) 1 1) ∧ Blk w' c 30 (abC 7 n) ∧ w.heap.size ≤ c ∧ ¬ V' c ∧ HnP w' B h xb sb kb V' (R ++ [⟨g, n⟩]) (S ++ [n]) v' ∧ (∀ b, V b → V' b) ∧ (∀ b, V' b → V b ∨ w.heap.size ≤ b) ∧ Vol V w w' := by
  obtain ⟨W, hW⟩ : ∃ W, W = (w.alloc (.cells (abC 13 n) 30)).alloc (.cells #[.string rF, .string rE, .int .i64 n] 90) := ⟨_, rfl⟩
  have hb : Below w.heap.size w W := by rw [hW]; exact ((Below.refl _ _).alloc (Nat.le_refl _) _).alloc (by simp) _
  have hC := Start_no (H.below hb) hn hl
  have HW := Lib.hid hW
  have HB := Lib.hid hb
  clear hW hb H hn
  go_enter Try.func11, Try.ntmps11
  go_upto_region 4 with fail
  rw [← HW.out]
  obtain ⟨a, ha⟩ : ∃ a, a = w.heap.size := ⟨_, rfl⟩
  have hk1 : Blk W (a + 1) 90 #[.string rF, .string rE, .int .i64 n] := by
    rw [HW.out, ha]
    have := Blk.new (w.alloc (.cells (abC 13 n) 30)) 90 #[.string rF, .string rE, .int .i64 n]
    simpa using this
  have k0 : W.cell? ⟨w.heap.size + 1, 0, none⟩ = some (.string rF) := by rw [← ha]; exact hk1.cell 0
  have k1 : W.cell? ⟨w.heap.size + 1, 1, none⟩ = some (.string rE) := by rw [← ha]; exact hk1.cell 1
  have k2 : W.cell? ⟨w.heap.size + 1, 2, none⟩ = some (.int .i64 n) := by rw [← ha]; exact hk1.cell 2
  clear ha hk1
  go_wp2_with (go_at_call 44; refine hC.mono ?_; rintro r w1 ⟨c, V', v', g, rfl, x1, x2, x3, x4, x5, x6, x7⟩)
  go_ret
  exact ⟨c, V', v', g, rfl, x1, Nat.le_trans HB.out.size x2, x3, x4, x5, fun b e => (x6 b e).imp id (fun e => Nat.le_trans HB.out.size e), (Vol.of_below HB.out).trans x7 (fun b e => .inl e)⟩
set_option maxHeartbeats 4000000 in
theorem Live_n (H : HnP w B h xb sb kb V R S v) :
    Calls Try.prog 13 #[.pointer (some ⟨h, 0, none⟩)] w fun r w' => r = .returned (.int .i64 R.length) ∧ w' = w := by
  obtain ⟨A0, c0, rfl, hc0, -⟩ := own_slice H.row
  have a0 : w.cell? ⟨h, 0, none⟩ = some (.slice A0 R.length c0) := H.blk.cell 0
  go_enter Try.func13, Try.ntmps13
  go_wp2
  go_ret
  exact ⟨rfl, rfl⟩
set_option maxHeartbeats 4000000 in
theorem New_h (w : World) : Calls Try.prog 9 #[] w fun r w' => ∃ h xb sb kb V, r = .returned (.pointer (some ⟨h, 0, none⟩)) ∧ HnP w' w.heap.size h xb sb kb V [] [] (.slice none 0 0) ∧ Below w.heap.size w w' := by
  have hmm := @run_makeMap Try.prog
  go_enter Try.func9, Try.ntmps9
  go_wp2
  go_ret
  have hw : ∀ (w : World) (o : Obj), Below w.heap.size w (w.alloc o) := fun w o => (Below.refl _ _).alloc (Nat.le_refl _) _
  have b1 := hw w (.map #[] 0)
  have b2 := hw (w.alloc (.map #[] 0)) (.map #[] 0)
  have b3 := hw ((w.alloc (.map #[] 0)).alloc (.map #[] 0)) (.map #[] 0)
  have b4 := hw (((w.alloc (.map #[] 0)).alloc (.map #[] 0)).alloc (.map #[] 0)) (.cells #[.slice none 0 0, .map (some w.heap.size), .map (some (w.heap.size + 1)), .slice none 0 0, .map (some (w.heap.size + 1 + 1))] 88)
  have b34 := b3.trans (b4.mono b3.size)
  have b24 := b2.trans (b34.mono b2.size)
  have b14 := b1.trans (b24.mono b1.size)
  refine ⟨w.heap.size + 1 + 1 + 1, w.heap.size, w.heap.size + 1, w.heap.size + 1 + 1, fun b => w.heap.size ≤ b ∧ b < w.heap.size + 4, by simp, ⟨?_, ?_, ?_, fun k p h => by simp at h, ⟨by simp, .inl ⟨rfl, rfl⟩⟩, fun k p h => by simp at h, fun j k p q h => by simp at h, fun j k p q h => by simp at h, by omega, ⟨by omega, by omega, by omega⟩, fun k p h => by simp at h, fun b h => by simp [Value.ownBlock] at h, fun b h => by simp; omega, fun b h => h.1⟩, b14⟩
  · have := Blk.new (((w.alloc (.map #[] 0)).alloc (.map #[] 0)).alloc (.map #[] 0)) 88 #[.slice none 0 0, .map (some w.heap.size), .map (some (w.heap.size + 1)), .slice none 0 0, .map (some (w.heap.size + 1 + 1))]
    simpa using this
  · exact (MapAt.made w).keep (b24.block _ (by simp))
  · have := (MapAt.made (w.alloc (.map #[] 0))).keep (b34.block _ (by simp))
    simpa using this
end
end Go.Proofs.Ytiflhfhonhbcpaa.Han
