/- One update more: the program's. -/
import Derived.Test.YticmldkgkfcoeaaWaC
namespace Go.Proofs.Yticmldkgkfcoeaa.Wa
open Go Go.RowKit Go.Proofs.Yticmldkgkfcoeaa Go.Proofs.Yticmldkgkfcoeaa.Crw Go.ChangeShapes Go.WideShapes Go.ChangeAt
set_option linter.unusedVariables false
set_option maxRecDepth 100000
theorem int_infoW : (Try.prog.info? 3).map (fun i => (i.zero, i.size, i.bytes)) = some (some (.int .i64 0), 1, 8) := by kernel_rfl
set_option maxHeartbeats 4000000 in
theorem Follow_rep (A : Option Addr) (z c B : Nat) (sts : List Int) (kd nn st ep : Int) (F E T : ByteArray) (Ai : Option Addr) (ni ci : Nat) (w : World) (hB : B ≤ w.heap.size) (hr : Reads w B 1 A (z + 1) (sts.map (Value.int .i64))) (hn : z ≤ 1000) :
    Calls Try.prog 14 #[.slice A (z + 1) c, .agg #[.int .i64 kd, .string F, .string E, .string T, .int .i64 nn, .int .i64 st, .int .i64 ((z : Int) + 1), .int .i64 ep, .slice Ai ni ci]] w
      fun e w' => e = .returned (.tuple #[.slice A (z + 1) c, .bool (decide (sts[z]? = some st))]) ∧ Below w.heap.size w w' := by
  obtain ⟨ad, t, rfl, ht, hc⟩ := ints_atI hr (by omega : z < z + 1)
  obtain ⟨W, hW⟩ : ∃ W, W = w.alloc (.cells #[.int .i64 kd, .string F, .string E, .string T, .int .i64 nn, .int .i64 st, .int .i64 ((z : Int) + 1), .int .i64 ep, .slice Ai ni ci] 40) := ⟨_, rfl⟩
  have hb : Below w.heap.size w W := by rw [hW]; exact (Below.refl _ _).alloc (Nat.le_refl _) _
  have hg : Blk W w.heap.size 40 #[.int .i64 kd, .string F, .string E, .string T, .int .i64 nn, .int .i64 st, .int .i64 ((z : Int) + 1), .int .i64 ep, .slice Ai ni ci] := by rw [hW]; exact Blk.new _ _ _
  have hrW : Reads W B 1 (some ad) (z + 1) (sts.map (Value.int .i64)) := hr.below (hb.mono hB)
  obtain ⟨ad', t', e1, ht', hcW⟩ := ints_atI hrW (by omega : z < z + 1)
  obtain rfl : ad' = ad := by injection e1.symm
  obtain rfl : t' = t := by rw [ht] at ht'; injection ht'.symm
  have q5 := hg.cell 5
  have q6 := hg.cell 6
  have z1 : IntKind.i64.wrap (z : Int) = z := by rw [IntKind.wrap_i64]; omega
  have z2 : ¬ ((z : Int) + 1 = 0) := by omega
  have z3 : (0 : Int) ≤ (z : Int) := by omega
  have z4 : (z : Int) < (z : Int) + 1 := by omega
  have z5 : (0 : Int) < (z : Int) + 1 := by omega
  have HB := Lib.hid hb
  have HT := Lib.hid ht
  have HW := Lib.hid hW
  have q5d : W.drew.cell? ⟨w.heap.size, 5, none⟩ = some (.int .i64 st) := q5
  have hcd : W.drew.cell? (ad'.add z) = some (.int .i64 t') := hcW
  clear hr hrW hb hg ht ht' hc e1 hW
  go_enter Try.func14, Try.ntmps14
  go_upto_region 1 with fail
  rw [← HW.out]
  go_upto_region 3 with fail
  clear q6
  have hd : (t' == st) = decide (sts[z]? = some st) := by rw [HT.out]; by_cases h : t' = st <;> simp [h]
  have HD := Lib.hid hd
  clear hd
  go_region_held3 (fun wa => wa.cell? (ad'.add z) = some (.int .i64 t') ∧ wa.cell? ⟨w.heap.size, 5, none⟩ = some (.int .i64 st)) (first | with_reducible assumption | with_reducible exact ⟨hcW, q5⟩ | with_reducible exact ⟨hcd, q5d⟩) (fail)
  go_wp2_with fail
  go_ret2
  refine ⟨?_, HB.out.drew⟩
  rw [← HD.out]
  rfl
set_option maxHeartbeats 8000000 in
theorem Follow_new (v : Value) (n B : Nat) (sts : List Int) (kd nn st nu ep : Int) (F E T : ByteArray) (Ai : Option Addr) (ni ci : Nat) (w : World) (hB : B ≤ w.heap.size) (ho : w.ownsRow B 3 1 v n (sts.map (Value.int .i64))) (hn : n ≤ 900) (hnu : ¬ (nu = n ∧ 0 < n)) :
    Calls Try.prog 14 #[v, .agg #[.int .i64 kd, .string F, .string E, .string T, .int .i64 nn, .int .i64 st, .int .i64 nu, .int .i64 ep, .slice Ai ni ci]] w
      fun e w' => ∃ v', e = .returned (.tuple #[v', .bool (decide (nu = n + 1) && decide (ofB (sts ++ [st]) ≠ 0))]) ∧ w'.ownsRow B 3 1 v' (n + 1) ((sts ++ [st]).map (Value.int .i64)) ∧ w.grownBy w' v.ownBlock ∧ (∀ g, v'.ownBlock = some g → v.ownBlock = some g ∨ w.heap.size ≤ g) := by
  obtain ⟨A, c, rfl, hc, -⟩ := own_slice ho
  obtain ⟨W, hW⟩ : ∃ W, W = w.alloc (.cells #[.int .i64 kd, .string F, .string E, .string T, .int .i64 nn, .int .i64 st, .int .i64 nu, .int .i64 ep, .slice Ai ni ci] 40) := ⟨_, rfl⟩
  have hb : Below w.heap.size w W := by rw [hW]; exact (Below.refl _ _).alloc (Nat.le_refl _) _
  have hg : Blk W w.heap.size 40 #[.int .i64 kd, .string F, .string E, .string T, .int .i64 nn, .int .i64 st, .int .i64 nu, .int .i64 ep, .slice Ai ni ci] := by rw [hW]; exact Blk.new _ _ _
  have hoW := own_keep ho hb
  have q5 := hg.cell 5
  have q6 := hg.cell 6
  have HB := Lib.hid hb
  have HG := Lib.hid hg
  have HO := Lib.hid hoW
  have HW := Lib.hid hW
  clear hb hg ho hoW hW
  have hw1 : IntKind.i64.wrap (n : Int) = n := by rw [IntKind.wrap_i64]; omega
  go_enter Try.func14, Try.ntmps14
  go_upto_region 1 with fail
  rw [← HW.out]
  obtain ⟨i0, hi, hz0, hz1, hz2⟩ := info_parts int_infoW
  have hcs : (nu = (n : Int) ∧ ¬ (0 : Int) < (n : Int)) ∨ ¬ nu = (n : Int) := by omega
  have HNU := Lib.hid hnu
  clear hnu
  rcases hcs with ⟨h1, h0⟩ | h0
  all_goals
    first | subst h1 | skip
    go_upto_region 4 with fail
    go_upto_region 5 with (at_builtin; go_must (refine wpList_append_any _ rfl _ _ 22 rfl B 3 i0 (.int .i64 0) 1 8 Try.underlying22 hi hz0 hz1 hz2 rfl (by decide) _ n (sts.map (Value.int .i64)) rfl (HO.out.alloc _) _ (some ⟨W.heap.size, 0, none⟩) 1 1 [.int .i64 st] rfl (reads_one W (.int .i64 st) 3) (by simp [Value.oneCell']) (by simp only [maxLen]; omega) (by omega) (by have := HB.out.size; simp; omega) ?_); intro v4 w4 hown4 hg4 hn4; obtain ⟨A4, c4', rfl, -, -⟩ := own_slice hown4)
    have hgW := (only_of_below HB.out (Value.slice A n c).ownBlock).trans ((World.grownBy_alloc W _ _).trans hg4)
    have hbx := own_blk_ne HO.out HG.out (by decide)
    have HGa := HG.out.below ((Below.refl W.heap.size W).alloc (Nat.le_refl _) (.cells #[.int .i64 st] 3)) HG.out.lt
    have q6d := (hg4.cell_far ⟨w.heap.size, 6, none⟩ (by have := HGa.lt; exact this) (fun e => hbx e.symm)).trans (HGa.cell 6)
    have hsz := hg4.size
    have hsz2 : W.heap.size ≤ w4.heap.size := by simp at hsz; omega
    have hsz3 := HB.out.size
    have hO := Of_any A4 (n + 1) c4' w4.heap.size (sts ++ [st]) w4 (Nat.le_refl _) (by rw [List.map_append]; exact Reads.of_own hown4) (by omega)
    have hn4 : (Value.slice A4 (n + 1) c4').ownBlock = (Value.slice A n c).ownBlock ∨ (Value.slice A4 (n + 1) c4').ownBlock = some (W.alloc (.cells #[.int .i64 st] 3)).heap.size := hn4
    rw [show (W.alloc (.cells #[.int .i64 st] 3)).heap.size = W.heap.size + 1 by simp] at hn4
    have HF := Lib.hid (And.intro hgW (And.intro hown4 (And.intro hn4 (And.intro hsz2 hsz3))))
    clear hgW hbx HGa hsz hsz2 hsz3 hown4 hg4 hn4 q5 q6
    have fin : ∀ {w' : World}, Below w4.heap.size w4 w' → w'.ownsRow B 3 1 (.slice A4 (n + 1) c4') (n + 1) ((sts ++ [st]).map (Value.int .i64)) ∧ w.grownBy w' (Value.slice A n c).ownBlock ∧ (∀ g, (Value.slice A4 (n + 1) c4').ownBlock = some g → (Value.slice A n c).ownBlock = some g ∨ w.heap.size ≤ g) := by
      intro w' hb'
      obtain ⟨y1, y2, y3, y4, y5⟩ := HF.out
      refine ⟨by rw [List.map_append]; exact own_keep y2 hb', y1.trans (only_of_below hb' _), fun g hg => ?_⟩
      rcases y3 with e | e
      · exact .inl (by rw [← e]; exact hg)
      · rw [e] at hg
        injection hg with hg
        exact .inr (by omega)
  · have h9 : ¬ (n : Int) = (n : Int) + 1 := by omega
    have FIN := Lib.hid (fun w' hb' => @fin w' hb')
    clear hO fin
    go_wp2_with fail
    go_ret2
    have hf := FIN.out w4 (Below.refl _ _)
    rw [List.map_append] at hf
    refine ⟨.slice A4 (n + 1) c4', ?_, ?_⟩
    · first | rfl | (rw [decide_eq_false h9]; rfl) | simp [h9]
    · first | exact hf | simpa using hf
  · have FIN := Lib.hid (fun w' hb' => @fin w' hb')
    clear fin
    by_cases h9 : nu = (n : Int) + 1
    · subst h9
      go_wp2_with (go_at_call 18; refine hO.mono ?_; rintro e w' ⟨rfl, hb5⟩; clear hO)
      go_ret2
      have hf := FIN.out _ hb5
      rw [List.map_append] at hf
      refine ⟨.slice A4 (n + 1) c4', ?_, ?_⟩
      · first | rfl | (simp; done) | (simp; rfl)
      · first | exact hf | simpa using hf
    · clear hO
      go_wp2_with fail
      go_ret2
      have hf := FIN.out w4 (Below.refl _ _)
      rw [List.map_append] at hf
      refine ⟨.slice A4 (n + 1) c4', ?_, ?_⟩
      · first | rfl | (rw [decide_eq_false h9]; rfl) | simp [h9]
      · first | exact hf | simpa using hf
end Go.Proofs.Yticmldkgkfcoeaa.Wa
