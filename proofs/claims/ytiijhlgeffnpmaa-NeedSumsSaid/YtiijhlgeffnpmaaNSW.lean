/- The walk of NeedSums: the Go text returns true, and writes nothing that was there. -/
import Derived.Test.YtiijhlgeffnpmaaNEW
namespace Go.Proofs.Ytiijhlgeffnpmaa.needSums
open Go.ChangeShapes Go.WideShapes Go.ChangeAt Go.RowKit
set_option linter.unusedVariables false
theorem cx_info : (Try.prog.info? 25).map (fun i => (i.zero, i.size, i.bytes)) = some (some (.complex .f64 0 0), 1, 16) := by kernel_rfl
theorem one_cell_cx (a b : Nat) : ∀ u ∈ [Value.complex .f64 a b], u.oneCell' = true := by intro u hu; simp at hu; subst hu; rfl
theorem ints_at {w : World} {B n k : Nat} {q : IntKind} {A : Option Addr} {xs : List Int} (hr : Reads w B 1 A n (xs.map (Value.int q))) (hk : k < n) : ∃ ad x, A = some ad ∧ xs[k]? = some x ∧ w.cell? (ad.add k) = some (.int q x) := by
  obtain ⟨ad, u, rfl, _, hx, hc⟩ := hr.at_ hk
  simp only [List.getElem?_map, Option.map_eq_some_iff] at hx
  obtain ⟨x, h1, h2⟩ := hx
  exact ⟨ad, x, rfl, h1, by rw [hc, h2]⟩
/-- What holds at the loop's head. -/
def SInv (w : World) (v s t i : Value) (wr : World) : Prop :=
  ∃ L : List (Nat × Nat), L.length ≤ 30 ∧ sA L ≤ 1000 * L.length ∧ sB L ≤ 1000 * L.length ∧ s = .int .i64 (sA L : Nat) ∧ t = .int .i64 (sB L : Nat) ∧ i = .int .i64 (L.length : Nat) ∧ wr.ownsRow w.heap.size 25 1 v L.length (L.map cv) ∧ Below w.heap.size w wr
theorem sA_snoc (L : List (Nat × Nat)) (a b : Nat) : sA (L ++ [(a, b)]) = sA L + a := by unfold sA; simp
theorem sB_snoc (L : List (Nat × Nat)) (a b : Nat) : sB (L ++ [(a, b)]) = sB L + b := by unfold sB; simp
set_option maxRecDepth 100000 in
set_option maxHeartbeats 4000000 in
theorem walk (A0 : Option Addr) (n0 c0 : Nat) (x0 : List Int) (A1 : Option Addr) (n1 c1 : Nat) (x1 : List Int) (a2 : Int) (a3 : Int) (w : World) (b0 : IntRow .i64 w A0 n0 c0 x0) (b1 : IntRow .i64 w A1 n1 c1 x1) (b2 : -9223372036854775808 ≤ a2 ∧ a2 ≤ 9223372036854775807) (b3 : -9223372036854775808 ≤ a3 ∧ a3 ≤ 9223372036854775807) :
    Calls Try.prog 5 #[.slice A0 n0 c0, .slice A1 n1 c1, .int .i64 a2, .int .i64 a3] w fun e w' => e = .returned (.bool true) ∧ Below w.heap.size w w' := by
  obtain ⟨i0, hi, hz0, hz1, hz2⟩ := info_parts cx_info
  obtain ⟨_, q2, _, hr0, hw0⟩ := b0
  obtain ⟨_, q3, _, hr1, hw1⟩ := b1
  go_enter Try.func5, Try.ntmps5
  go_wp2_with fail
  go_loopw [9, 10, 11, 12] (fun v s t i wr => SInv w v s t i wr) (fun _ _ _ i _ => 30 - (intOf i).toNat)
  case atStart => exact ⟨[], by simp, by simp [sA], by simp [sB], rfl, rfl, rfl, ⟨by simp, .inl ⟨rfl, rfl⟩⟩, Below.refl _ _⟩
  case round =>
    obtain ⟨L, hL, hA, hB, rfl, rfl, rfl, hown, hbel⟩ := hrel
    obtain ⟨Av, cv0, rfl, hAc, hcm⟩ := own_slice hown
    have hsz := hbel.size
    by_cases gg : L.length < n0 ∧ L.length < n1 ∧ L.length < 30
    · obtain ⟨g1, g2, g3⟩ := gg
      · · obtain ⟨ad0, p, rfl, hx, hc0⟩ := ints_at (hr0.below hbel) g1
          obtain ⟨ad1, q, rfl, hy, hc1⟩ := ints_at (hr1.below hbel) g2
          have e1 := bounds_i64 (hw0 p (List.mem_of_getElem? hx))
          have e2 := bounds_i64 (hw1 q (List.mem_of_getElem? hy))
          have k1 : (L.length : Int) < (n0 : Int) := by omega
          have k2 : (L.length : Int) < (n1 : Int) := by omega
          have k3 : (L.length : Int) < 30 := by omega
          clear hx hy hw0 hw1
          go_wp2_with fail
          go_quiet (first | (go_at_call 6; exact (Within_any _ _ _ (by omega) (by omega) (by omega) (by omega)).mono fun e w' h => ⟨h.1, _, h.2.symm⟩))
          obtain ⟨x, hx⟩ := Int.eq_ofNat_of_zero_le (Int.emod_nonneg p (show (1000 : Int) ≠ 0 by omega))
          obtain ⟨y, hy⟩ := Int.eq_ofNat_of_zero_le (Int.emod_nonneg q (show (1000 : Int) ≠ 0 by omega))
          have hx1 : x < 1000 := by have := Int.emod_lt_of_pos p (show (0 : Int) < 1000 by omega); omega
          have hy1 : y < 1000 := by have := Int.emod_lt_of_pos q (show (0 : Int) < 1000 by omega); omega
          simp only [hx, hy]
          clear hx hy hc0 hc1 e1 e2
          have O1 : ofW x y x = fw x := by unfold ofW; rw [if_pos (by omega)]; rfl
          have O2 : ofW x y y = fw y := by unfold ofW; rw [if_pos (by omega)]; rfl
          have M1 : bigN (fw x) (fw y) 100000 = true := by rw [needEdges.bigN_fw (by omega) (by omega)]; simp; omega
          have P1 : (partN (fw x) (fw y) (fw x) : Int) = x := by unfold partN; rw [M1, if_pos rfl, nOf_fw (by omega)]
          have P2 : (partN (fw x) (fw y) (fw y) : Int) = y := by unfold partN; rw [M1, if_pos rfl, nOf_fw (by omega)]
          have R1 : rightN (fw x) (fw y) = decide ((0 : Int) < (x : Int) + y) := by
            rw [needEdges.rightN_fw (by omega) (by omega), decide_eq_true (show x ≤ 1000 by omega), decide_eq_true (show y ≤ 1000 by omega)]
            rcases Nat.eq_zero_or_pos x with h | h
            · subst h
              rcases Nat.eq_zero_or_pos y with h | h
              · subst h; rfl
              · have e1 : (y == 0) = false := by simp; omega
                rw [e1]; simp; omega
            · have e1 : (x == 0) = false := by simp; omega
              rw [e1]; simp; omega
          have hown' : (wr.drewN nq).ownsRow w.heap.size 25 1 (.slice Av L.length cv0) L.length (L.map cv) := hown
          have hbel' : Below w.heap.size w (wr.drewN nq) := below_drewN hbel nq
          have hsz' : w.heap.size ≤ (wr.drewN nq).heap.size := hsz
          generalize wr.drewN nq = wd at *
          clear hown hbel hsz
          have Hcv : Hid (cv (x, y) = .complex .f64 (fw x) (fw y)) := rfl
          have HA := Lib.hid (sA_snoc L x y)
          have HB := Lib.hid (sB_snoc L x y)
          generalize fw x = X at *
          generalize fw y = Y at *
          go_wp2_with (first | (go_at_call 9; refine (Of_any _ _ _).mono ?_; rintro e w' ⟨rfl, rfl⟩) | (at_builtin; go_must (refine wpList_append_own _ rfl _ _ 38 rfl w.heap.size 25 i0 (.complex .f64 0 0) 1 16 Try.underlying38 hi hz0 hz1 hz2 rfl (by decide) _ _ _ rfl (hown'.alloc _) ⟨wd.heap.size, 0, none⟩ 1 1 [.complex .f64 X Y] rfl rfl (cell_one_new _ _ _) (one_cell_cx _ _) (by simp only [maxLen]; omega) (by omega) (by simp; omega) ?_); intro v1 w1 hown1 hg1 _hne; have hbel1 := push_below hbel' hsz' hown' _ hg1; clear hg1 _hne; obtain ⟨Av1, cv1, rfl, hAc1, hcm1⟩ := own_slice hown1; obtain ⟨ad2, u2, rfl, _, hu2, hc2⟩ := (Reads.of_own hown1).at_ (k := L.length) (by omega); have hu3 : u2 = .complex .f64 X Y := (by simpa using hu2.symm); subst hu3; clear hu2; have k5 : (L.length : Int) < ((L.length : Int) + 1) := by omega) | (go_at_call 10; refine (Parts_any _ _ _).mono ?_; rintro e w' ⟨rfl, rfl⟩) | (go_at_call 7; refine (Right_any _ _ _).mono ?_; rintro e w' ⟨rfl, rfl⟩) | (go_at_call 8; refine (Room_any _ _ _).mono ?_; rintro e w' ⟨rfl, rfl⟩))
          go_roundw
          case rel => exact ⟨L ++ [(x, y)], by simp; omega, by have := HA.out; simp only [List.length_append, List.length_singleton]; omega, by have := HB.out; simp only [List.length_append, List.length_singleton]; omega, by (simp only [HA.out]; try go_num), by (simp only [HB.out]; try go_num), by simp, by simpa [Hcv.out] using hown1, hbel1⟩
          case measure => simp [intOf]; omega
    · obtain ⟨c, hc⟩ := Int.eq_ofNat_of_zero_le (Int.emod_nonneg a2 (show (30000 : Int) ≠ 0 by omega))
      obtain ⟨d, hd⟩ := Int.eq_ofNat_of_zero_le (Int.emod_nonneg a3 (show (30000 : Int) ≠ 0 by omega))
      have hc1 : c < 30000 := by have := Int.emod_lt_of_pos a2 (show (0 : Int) < 30000 by omega); omega
      have hd1 : d < 30000 := by have := Int.emod_lt_of_pos a3 (show (0 : Int) < 30000 by omega); omega
      have hread := Reads.of_own hown
      have hW0 := fun w => Within_any a2 30000 w b2.1 b2.2 (by omega) (by omega)
      have hW1 := fun w => Within_any a3 30000 w b3.1 b3.2 (by omega) (by omega)
      rw [hc] at hW0
      rw [hd] at hW1
      clear hc hd
      have hS := Sum_any Av L.length cv0 L wr.heap.size wr (Nat.le_refl _) hread (by omega) (by omega) (by omega)
      have hS0 := fun w => Sum_any none 0 0 [] w.heap.size w (Nat.le_refl _) Reads.none_ (by omega) (by simp [sA]) (by simp [sB])
      rw [show sA [] = 0 from rfl, show sB [] = 0 from rfl, fw_zero] at hS0
      generalize sA L = a at *
      generalize sB L = b at *
      have M1 : bigN (fw a) (fw b) 100000 = true := by rw [needEdges.bigN_fw (by omega) (by omega)]; simp; omega
      have P1 : (partN (fw a) (fw b) (fw a) : Int) = a := by unfold partN; rw [M1, if_pos rfl, nOf_fw (by omega)]
      have P2 : (partN (fw a) (fw b) (fw b) : Int) = b := by unfold partN; rw [M1, if_pos rfl, nOf_fw (by omega)]
      have O1 : ofW c d c = fw c := by unfold ofW; rw [if_pos (by omega)]; rfl
      have O2 : ofW c d d = fw d := by unfold ofW; rw [if_pos (by omega)]; rfl
      have L1 : leF (fw a) (fw c) = decide ((a : Int) ≤ (c : Int)) := by rw [leF_fw (by omega) (by omega)]; simp
      have L2 : leF (fw b) (fw d) = decide ((b : Int) ≤ (d : Int)) := by rw [leF_fw (by omega) (by omega)]; simp
      have L3 : leF (fw a) (fw a) = true := by rw [leF_fw (by omega) (by omega)]; simp
      have L4 : leF (fw b) (fw b) = true := by rw [leF_fw (by omega) (by omega)]; simp
      have L5 : leF 0 (fw c) = true := by rw [← fw_zero, leF_fw (by omega) (by omega)]; simp
      have L6 : leF 0 (fw d) = true := by rw [← fw_zero, leF_fw (by omega) (by omega)]; simp
      have Z : binOp .eql 25 (.complex .f64 0 0) (.complex .f64 0 0) = pure (.bool true) := by
        have e1 : (FloatKind.f64.format.order 0 0 == some .eq) = true := by decide +kernel
        simp [binOp, Op.complexOp, Op.Complex.cmp, Op.floatCmp, asBool, e1]
      generalize fw a = X at *
      generalize fw b = Y at *
      generalize fw c = V at *
      generalize fw d = T at *
      have he : (¬ L.length < n0) ∨ (L.length < n0 ∧ ¬ L.length < n1) ∨ (L.length < n0 ∧ L.length < n1 ∧ ¬ L.length < 30) := by omega
      clear gg hA hB b2 b3 hr0 hr1 hw0 hw1
      have hf : (((a : Int) ≤ c) ∧ ((b : Int) ≤ d)) ∨ (((a : Int) ≤ c) ∧ ¬ ((b : Int) ≤ d)) ∨ ¬ ((a : Int) ≤ c) := by omega
      rcases he with g1 | ⟨g1, g2⟩ | ⟨g1, g2, g3⟩ <;> rcases hf with ⟨f1, f2⟩ | ⟨f1, f2⟩ | f1
      all_goals
        first | rw [decide_eq_true f1] at L1 | rw [decide_eq_false f1] at L1
        try first | rw [decide_eq_true f2] at L2 | rw [decide_eq_false f2] at L2
        go_wp2_with fail
        refine (hW0 _).mono ?_
        rintro e w' ⟨rfl, rfl⟩
        go_wp2_with fail
        refine (hW1 _).mono ?_
        rintro e w' ⟨rfl, rfl⟩
        go_wp2_with fail
        refine hS.mono ?_
        rintro e w2 ⟨rfl, hb2⟩
        go_wp2_with (first | (go_at_call 10; refine (Parts_any _ _ _).mono ?_; rintro e w' ⟨rfl, rfl⟩) | (go_at_call 9; refine (Of_any _ _ _).mono ?_; rintro e w' ⟨rfl, rfl⟩) | (go_at_call 11; refine (Fits_any _ _ _ _ _).mono ?_; rintro e w' ⟨rfl, rfl⟩) | (go_at_call 12; refine (hS0 _).mono ?_; rintro e w3 ⟨rfl, hb3⟩) | (go_at_call 13; refine (needEdges.wakes_any _).mono ?_; rintro e w' ⟨rfl, rfl⟩))
        go_ret
        exact ⟨ret_bool (by first | rfl | (simp; omega)), (below_same (below_same hbel hsz hb2).1 (below_same hbel hsz hb2).2 hb3).1⟩

end Go.Proofs.Ytiijhlgeffnpmaa.needSums
