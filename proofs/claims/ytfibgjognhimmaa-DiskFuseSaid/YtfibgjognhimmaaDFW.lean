/- The walk of DiskFuse: the plain terms find it true, case by case. -/
import Derived.Test.YtfibgjognhimmaaDFW0
import Derived.Test.YtfibgjognhimmaaDFW1
import Derived.Test.YtfibgjognhimmaaDFW2
import Derived.Test.YtfibgjognhimmaaDFW3
namespace Go.Proofs.Ytfibgjognhimmaa.diskFuse
open Go.ChangeShapes Go.WideShapes Go.ChangeAt Go.RowKit
set_option maxRecDepth 1000000
set_option linter.unusedVariables false
theorem cov0_ok (m0 : Nat) (hm0 : m0 < 9) : coverOk 12 (cov0 m0) = true := by
  have h : ((List.range 9).all fun m0 => coverOk 12 (cov0 m0)) = true := by kernel_rfl
  simp only [List.all_eq_true, List.mem_range] at h
  exact h m0 hm0
theorem walk (a0 : Int) (v1 : Value) (w : World) (b0 : -9223372036854775808 ≤ a0 ∧ a0 ≤ 9223372036854775807) (b1 : ByteArg w v1) :
    Calls Try.prog 4 #[.int .i64 a0, v1] w fun e w' => e = .returned (.bool true) ∧ Below w.heap.size w w' := by
  obtain ⟨xs0, hx0⟩ := bytes_xs b1
  letI : Toks := ⟨fun k => if k = 0 then a0 else if k = 100 then a0 % 12 else if 10000 ≤ k then xs0.getD (k - 10000) 0 else 0⟩
  have hT0 : ∀ k, k < 8 → Toks.B (10000 * (0 + 1) + k) = xs0.getD k 0 := by
    intro k hk
    show (if 10000 * (0 + 1) + k = 0 then a0 else if 10000 * (0 + 1) + k = 100 then a0 % 12 else if 10000 ≤ 10000 * (0 + 1) + k then xs0.getD (10000 * (0 + 1) + k - 10000) 0 else 0 : Int) = _
    rw [if_neg (by omega)]
    rw [if_neg (by omega)]
    rw [if_pos (by omega), show 10000 * (0 + 1) + k - 10000 = k by omega]
  have fin : ∀ (l : List (Nat × Nat × Nat × Nat × Nat)) (obs : List (AObj × Loc)) (u1 : Value), at_ l u1 (heapOf (obs.map (·.1))) = true → (∀ q ∈ l, (-9223372036854775808 ≤ Toks.A q.1 ∧ Toks.A q.1 ≤ 9223372036854775807) ∧ 1 ≤ (q.2.1 : Int) ∧ (q.2.1 : Int) ≤ 9223372036854775807 ∧ ∀ ρ : Ren, VR ρ (caseV q.2.2.1 (q.2.2.2.1, q.2.2.2.2)) (.int .i64 (Toks.A q.1 % (q.2.1 : Int)))) → ArgsHeld obs w → VR (fun i => (obs[i]?).map (·.2)) u1 v1 →
      Calls Try.prog 4 #[.int .i64 a0, v1] w fun e w' => e = .returned (.bool true) ∧ Below w.heap.size w w' := by
    intro l obs u1 hc hok hob r1
    refine top_args (okF := cfg l) tabAll_ok ⟨overW_ok (tabOf l) (fun q hq => ?_) fun q hq => ?_, summAll_ok, summAll_mono⟩ mixed 3000 60 w hob ?_ hc
    · obtain ⟨x, hx, rfl⟩ := List.mem_map.1 hq
      exact (hok x hx).1
    · obtain ⟨x, hx, rfl⟩ := List.mem_map.1 hq
      exact (hok x hx).2
    · exact .cons (rfl) (.cons (r1) .nil)
  have fin2 : ∀ (obs : List (AObj × Loc)) (hp : AHeap) (m0 : Nat) (u1 : Value), run m0 u1 hp = true → heapOf (obs.map (·.1)) = hp → m0 < 9 → ArgsHeld obs w → VR (fun i => (obs[i]?).map (·.2)) u1 v1 →
      Calls Try.prog 4 #[.int .i64 a0, v1] w fun e w' => e = .returned (.bool true) ∧ Below w.heap.size w w' := by
    intro obs hp m0 u1 hc hhp hm0 hob r1
    subst hhp
    obtain ⟨c0, h0, e0⟩ := cover_get (t := 100) (n := 12) (l := cov0 m0) (cov0_ok m0 hm0) (a := a0) (by decide) rfl
    unfold run at hc
    simp only [List.all_eq_true] at hc
    refine fin _ obs u1 (hc c0 h0) ?_ hob r1
    intro q hq
    simp only [List.mem_cons, List.not_mem_nil, or_false] at hq
    subst hq
    exact ⟨b0, (by show (1 : Int) ≤ 12; decide), (by show (12 : Int) ≤ 9223372036854775807; decide), e0⟩
  rcases hx0 with rfl | ⟨b0_, off0, n0, c0_, cs0, el0, fz0, rfl, hn0, hw0, hl0, hx0⟩
  · skip
    have hc : run 0 (.slice none 0 0) (heapOf []) = true := by
      exact all0
    refine fin2 [] _ 0 _ hc rfl (by omega) ?_ (VR.flat rfl)
    intro q hq
    cases hq
  · obtain ⟨K0, hK0⟩ := Nat.exists_eq_add_of_le hn0
    rw [Nat.add_comm] at hK0
    subst hK0
    by_cases hz0 : n0 = 0
    · subst hz0
      cases K0 with
      | zero =>
        have hc : run 0 (.slice (some ⟨0, 0, none⟩) 0 (0 + 0)) (heapOf [⟨byteToks 0 0 0 ++ (xs0.drop 0).map (.int .u8), el0, 2, 1⟩]) = true := by
          exact all1 ((xs0.drop 0).map (.int .u8)) el0
        refine fin2 [(⟨byteToks 0 0 0 ++ (xs0.drop 0).map (.int .u8), el0, 2, 1⟩, ⟨b0_, 0, off0⟩)] _ 0 _ hc rfl (by omega) ?_ (bytes_rel (by omega) rfl)
        intro q hq
        simp only [List.mem_cons, List.not_mem_nil, or_false] at hq
        subst hq
        exact ⟨rfl, bytes_held (by omega) (by omega) hw0 hx0 (fun k hk => hT0 k (by omega)) (by omega)⟩
      | succ K0 =>
        have hc : run 0 (.slice (some ⟨0, 0, none⟩) 0 ((K0 + 1) + 0)) (heapOf [⟨byteToks 0 0 0 ++ (xs0.drop 0).map (.int .u8), el0, 2, 1⟩]) = true := by
          exact all2 ((xs0.drop 0).map (.int .u8)) el0 K0
        refine fin2 [(⟨byteToks 0 0 0 ++ (xs0.drop 0).map (.int .u8), el0, 2, 1⟩, ⟨b0_, 0, off0⟩)] _ 0 _ hc rfl (by omega) ?_ (bytes_rel (by omega) rfl)
        intro q hq
        simp only [List.mem_cons, List.not_mem_nil, or_false] at hq
        subst hq
        exact ⟨rfl, bytes_held (by omega) (by omega) hw0 hx0 (fun k hk => hT0 k (by omega)) (by omega)⟩
    by_cases hb0 : n0 < 9
    · obtain ⟨N0, hN0⟩ : ∃ N, N = n0 := ⟨_, rfl⟩
      subst hN0
      have hc : run N0 (.slice (some ⟨0, 0, none⟩) N0 (K0 + N0)) (heapOf [⟨byteToks 0 N0 0 ++ (xs0.drop N0).map (.int .u8), el0, 2, 1⟩]) = true := by
        by_cases hr : (1 ≤ N0 ∧ N0 < 3)
        · have h := all3 ((xs0.drop N0).map (.int .u8)) el0 K0
          simp only [List.all_eq_true, List.mem_range'_1] at h
          exact h N0 (by omega)
        by_cases hr : (3 ≤ N0 ∧ N0 < 5)
        · have h := all4 ((xs0.drop N0).map (.int .u8)) el0 K0
          simp only [List.all_eq_true, List.mem_range'_1] at h
          exact h N0 (by omega)
        by_cases hr : (5 ≤ N0 ∧ N0 < 7)
        · have h := all5 ((xs0.drop N0).map (.int .u8)) el0 K0
          simp only [List.all_eq_true, List.mem_range'_1] at h
          exact h N0 (by omega)
        have h := all6 ((xs0.drop N0).map (.int .u8)) el0 K0
        simp only [List.all_eq_true, List.mem_range'_1] at h
        exact h N0 (by omega)
      refine fin2 [(⟨byteToks 0 N0 0 ++ (xs0.drop N0).map (.int .u8), el0, 2, 1⟩, ⟨b0_, 0, off0⟩)] _ N0 _ hc rfl (by omega) ?_ (bytes_rel (by omega) rfl)
      intro q hq
      simp only [List.mem_cons, List.not_mem_nil, or_false] at hq
      subst hq
      exact ⟨rfl, bytes_held (by omega) (by omega) hw0 hx0 (fun k hk => hT0 k (by omega)) (by omega)⟩
    · obtain ⟨M0, hM0⟩ := Nat.exists_eq_add_of_le (Nat.le_of_not_lt hb0)
      rw [Nat.add_comm] at hM0
      subst hM0
      have hc : run 8 (.slice (some ⟨0, 0, none⟩) (M0 + 9) (K0 + (M0 + 9))) (heapOf [⟨byteToks 0 8 0 ++ (xs0.drop 8).map (.int .u8), el0, 2, 1⟩]) = true := by
        exact all7 ((xs0.drop 8).map (.int .u8)) el0 K0 M0
      refine fin2 [(⟨byteToks 0 8 0 ++ (xs0.drop 8).map (.int .u8), el0, 2, 1⟩, ⟨b0_, 0, off0⟩)] _ 8 _ hc rfl (by omega) ?_ (bytes_rel (by omega) rfl)
      intro q hq
      simp only [List.mem_cons, List.not_mem_nil, or_false] at hq
      subst hq
      exact ⟨rfl, bytes_held (by omega) (by omega) hw0 hx0 (fun k hk => hT0 k (by omega)) (by omega)⟩
end Go.Proofs.Ytfibgjognhimmaa.diskFuse
