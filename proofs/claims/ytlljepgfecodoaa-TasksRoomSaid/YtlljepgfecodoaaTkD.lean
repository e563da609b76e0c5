/- What fits. -/
import Derived.Test.YtlljepgfecodoaaTkC
namespace Go.Proofs.Ytlljepgfecodoaa.Tk
open Go Go.RowKit Go.Proofs.Ytlljepgfecodoaa Go.Proofs.Ytlljepgfecodoaa.Crw Go.ChangeShapes Go.WideShapes Go.ChangeAt
set_option linter.unusedVariables false
set_option maxRecDepth 100000
attribute [local go_sem] run_store_complex
theorem own_new1 (W : World) (v : Value) (ty : TypeId) : (W.alloc (.cells #[v] ty)).ownsRow W.heap.size ty 1 (.slice (some ⟨W.heap.size, 0, none⟩) 1 1) 1 [v] :=
  ⟨rfl, .inr ⟨W.heap.size, 1, #[v], rfl, Nat.le_refl _, heap_alloc_new W _, Nat.le_refl _, by decide, rfl, rfl⟩⟩
set_option maxHeartbeats 8000000 in
theorem Fits_one (p q r1 r2 a b g : Nat) (t : ByteArray) (w : World) (hg : Blk w g 28 #[.string t, .complex .f64 (fw a) (fw b)]) (h1 : p + a < 2 ^ 53) (h2 : q + b < 2 ^ 53) :
    Calls Try.prog 11 #[.complex .f64 (fw p) (fw q), .complex .f64 r1 r2, .slice (some ⟨g, 0, none⟩) 1 1] w fun e w' => e = .returned (.bool (leF (fw (p + a)) r1 && leF (fw (q + b)) r2)) ∧ Below w.heap.size w w' := by
  obtain ⟨gu, egu⟩ : ∃ g, g = w.heap.size := ⟨_, rfl⟩
  obtain ⟨W, hW⟩ : ∃ W, W = w.alloc (.cells #[.complex .f64 (fw p) (fw q)] 25) := ⟨_, rfl⟩
  have hb : Below w.heap.size w W := by rw [hW]; exact (Below.refl _ _).alloc (Nat.le_refl _) _
  have ho : W.ownsRow w.heap.size 25 1 (.slice (some ⟨gu, 0, none⟩) 1 1) 1 ((([(p, q)] : List (Nat × Nat))).map cv) := by rw [hW, egu]; exact own_new1 _ _ _
  have HW := Lib.hid (And.intro hW egu)
  have HB := Lib.hid hb
  have HO := Lib.hid ho
  have HG := Lib.hid hg
  have HL := Lib.hid (And.intro h1 h2)
  clear hW egu hb ho hg h1 h2
  go_enter Try.func11, Try.ntmps11
  go_upto_region 2 with fail
  rw [← HW.out.1, ← HW.out.2]
  go_wp2_with fail
  go_loopw [7, 14] (fun v7 v14 wx => Hid (∃ (k : Nat), v14 = .int .i64 k ∧ k ≤ 1 ∧ wx.ownsRow w.heap.size 25 1 v7 (k + 1) (((([(p, q), (a, b)] : List (Nat × Nat))).take (k + 1)).map cv) ∧ Below w.heap.size w wx ∧ ∃ w7, w7 = wx)) (fun _ v14 _ => 1 - (intOf v14).toNat)
  case atStart => exact Lib.hid ⟨0, rfl, by omega, HO.out, HB.out, _, rfl⟩
  case round =>
    obtain ⟨k, rfl, hk, ho, hb, w7, hw7⟩ := hrel.out
    subst hw7
    clear hrel
    obtain ⟨Ao, co, rfl, hco, -⟩ := own_slice ho
    have hg7 := HG.out.below hb HG.out.lt
    have HO7 := Lib.hid ho
    have HB7 := Lib.hid hb
    clear ho hb
    rcases Nat.lt_or_ge k 1 with hlt | hge
    · obtain rfl : k = 0 := by omega
      have q0 : w7.cell? ⟨g, 0, none⟩ = some (.string t) := hg7.cell 0
      have q1 : w7.cell? ⟨g, 1, none⟩ = some (.complex .f64 (fw a) (fw b)) := hg7.cell 1
      clear hg7
      go_upto_region 5 with fail
      obtain ⟨g8, hg8⟩ : ∃ g, g = w7.heap.size := ⟨_, rfl⟩
      obtain ⟨w8, hw8⟩ : ∃ w8, w8 = w7.alloc (.cells #[.string t, .complex .f64 (fw a) (fw b)] 28) := ⟨_, rfl⟩
      rw [← hw8, ← hg8]
      have hbx : Blk w8 g8 28 #[.string t, .complex .f64 (fw a) (fw b)] := by rw [hw8, hg8]; exact Blk.new _ _ _
      have hb8 : Below w7.heap.size w7 w8 := by rw [hw8]; exact (Below.refl _ _).alloc (Nat.le_refl _) _
      have b1 := hbx.cell 1
      have HO8 := Lib.hid (own_keep HO7.out hb8)
      have HB8 := Lib.hid (HB7.out.trans (hb8.mono HB7.out.size))
      obtain ⟨i0, hi, hz0, hz1, hz2⟩ := info_parts cplx_info
      clear hw8 hg8 hbx hb8 q0 q1
      go_wp2_with (at_builtin; refine wpList_append_any _ rfl _ _ 50 rfl w.heap.size 25 i0 (.complex .f64 0 0) 1 16 Try.underlying50 hi hz0 hz1 hz2 rfl (by decide) _ (0 + 1) _ rfl (HO8.out.alloc _) _ (some ⟨w8.heap.size, 0, none⟩) 1 1 [cv (a, b)] rfl (reads_newN w8 [cv (a, b)] 25 rfl) (by simp [Value.oneCell', cv]) (by simp only [maxLen]; omega) (by omega) (by have := HB8.out.size; simp; omega) ?_; intro v4 w4 hown4 hg4 hn4; obtain ⟨A4, c4', rfl, -, -⟩ := own_slice hown4)
      have hpb := push_below HB8.out HB8.out.size HO8.out _ hg4
      refine ⟨?_, by simp [intOf]⟩
      exact Lib.hid ⟨1, by simp, by omega, hown4, hpb, _, rfl⟩
    · obtain rfl : k = 1 := by omega
      have hS := Sum_any Ao (1 + 1) co [(p, q), (a, b)] w7.heap.size w7 (Nat.le_refl _) (Reads.of_own HO7.out) (by omega) (by simpa [sA] using HL.out.1) (by simpa [sB] using HL.out.2)
      have e1 : sA [(p, q), (a, b)] = p + a := by simp [sA]
      have e2 : sB [(p, q), (a, b)] = q + b := by simp [sB]
      rw [e1, e2] at hS
      clear hg7 e1 e2 hge
      go_wp2_with fail
      refine hS.mono ?_
      rintro e w9 ⟨rfl, hb9⟩
      have hF := Fits_any (fw (p + a)) (fw (q + b)) r1 r2 w9
      have HB9 := Lib.hid (HB7.out.trans (hb9.mono HB7.out.size))
      clear hS hb9
      go_wp2_with fail
      refine hF.mono ?_
      rintro e w10 ⟨rfl, rfl⟩
      go_wp2_with fail
      go_ret
      exact ⟨rfl, HB9.out⟩
end Go.Proofs.Ytlljepgfecodoaa.Tk
