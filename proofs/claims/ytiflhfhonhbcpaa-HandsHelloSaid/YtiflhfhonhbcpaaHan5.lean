/- The hands hear that a run is destroyed. -/
import Derived.Test.YtiflhfhonhbcpaaHanF
namespace Go.Proofs.Ytiflhfhonhbcpaa.Han
open Go Go.RowKit Go.Proofs.Ytiflhfhonhbcpaa Go.Proofs.Ytiflhfhonhbcpaa.Crw Go.Proofs.Ytiflhfhonhbcpaa.Mas Go.ChangeShapes Go.WideShapes Go.ChangeAt
set_option linter.unusedVariables false
set_option maxRecDepth 100000
section
variable {w w' : World} {B h xb sb kb : Nat} {V U : Nat → Prop} {R : List Pr} {S : List Int} {v : Value}
set_option maxHeartbeats 8000000 in
theorem Hear_stop (H : HnP w B h xb sb kb V R S v) {j : Nat} {p : Pr} (hj : R[j]? = some p) {n : Int} (hp : p.n = n) (hl : R.length ≤ 100) :
    Calls Try.prog 11 #[.pointer (some ⟨h, 0, none⟩), .agg (abC 17 n)] w fun r w' => ∃ c v', r = .returned (.slice (some ⟨c, 0, none⟩) 1 1) ∧ Blk w' c 30 (abC 9 n) ∧ w.heap.size ≤ c ∧ ¬ V c ∧ HnP w' B h xb sb kb V (R.eraseIdx j) S v' ∧ Vol V w w' := by
  obtain ⟨W, hW⟩ : ∃ W, W = (w.alloc (.cells (abC 17 n) 30)).alloc (.cells #[.string rF, .string rE, .int .i64 n] 90) := ⟨_, rfl⟩
  have hb : Below w.heap.size w W := by rw [hW]; exact ((Below.refl _ _).alloc (Nat.le_refl _) _).alloc (by simp) _
  have hC := Stop_run (H.below hb) hj hp hl
  have HW := Lib.hid hW
  have HB := Lib.hid hb
  clear hW hb H hj hp
  go_enter Try.func11, Try.ntmps11
  go_upto_region 11 with fail
  rw [← HW.out]
  obtain ⟨a, ha⟩ : ∃ a, a = w.heap.size := ⟨_, rfl⟩
  have hk1 : Blk W (a + 1) 90 #[.string rF, .string rE, .int .i64 n] := by
    rw [HW.out, ha]
    have := Blk.new (w.alloc (.cells (abC 17 n) 30)) 90 #[.string rF, .string rE, .int .i64 n]
    simpa using this
  have k0 : W.cell? ⟨w.heap.size + 1, 0, none⟩ = some (.string rF) := by rw [← ha]; exact hk1.cell 0
  have k1 : W.cell? ⟨w.heap.size + 1, 1, none⟩ = some (.string rE) := by rw [← ha]; exact hk1.cell 1
  have k2 : W.cell? ⟨w.heap.size + 1, 2, none⟩ = some (.int .i64 n) := by rw [← ha]; exact hk1.cell 2
  clear ha hk1
  go_wp2_with (go_at_call 47; refine hC.mono ?_; rintro r w1 ⟨c, v', rfl, x1, x2, x3, x4, x5⟩)
  go_ret
  exact ⟨c, v', rfl, x1, Nat.le_trans HB.out.size x2, x3, x4, (Vol.of_below HB.out).trans x5 (fun b e => .inl e)⟩
end
end Go.Proofs.Ytiflhfhonhbcpaa.Han
