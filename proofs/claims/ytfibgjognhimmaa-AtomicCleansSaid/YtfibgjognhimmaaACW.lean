/- The walk of AtomicCleans: the plain terms find it true, case by case. -/
import Derived.Test.YtfibgjognhimmaaACW0
import Derived.Test.YtfibgjognhimmaaACW1
import Derived.Test.YtfibgjognhimmaaACW2
import Derived.Test.YtfibgjognhimmaaACW3
import Derived.Test.YtfibgjognhimmaaACW4
import Derived.Test.YtfibgjognhimmaaACW5
namespace Go.Proofs.Ytfibgjognhimmaa.atomicCleans
open Go.ChangeShapes Go.WideShapes Go.ChangeAt Go.RowKit
set_option maxRecDepth 1000000
set_option linter.unusedVariables false
theorem cov0_ok (m0 : Nat) (hm0 : m0 < 21) : coverOk 4 (cov0 m0) = true := by
  have h : ((List.range 21).all fun m0 => coverOk 4 (cov0 m0)) = true := by kernel_rfl
  simp only [List.all_eq_true, List.mem_range] at h
  exact h m0 hm0
theorem cov1_ok (m0 : Nat) (c0 : Nat × Nat) (hm0 : m0 < 21) (h0 : c0 ∈ cov0 m0) : coverOk 30 (cov1 m0 c0) = true := by
  have h : ((List.range 21).all fun m0 => (cov0 m0).all fun c0 => coverOk 30 (cov1 m0 c0)) = true := by kernel_rfl
  simp only [List.all_eq_true, List.mem_range] at h
  exact h m0 hm0 c0 h0
theorem walk (v0 : Value) (a1 : Int) (a2 : Int) (w : World) (b0 : ByteArg w v0) (b1 : -9223372036854775808 ≤ a1 ∧ a1 ≤ 9223372036854775807) (b2 : -9223372036854775808 ≤ a2 ∧ a2 ≤ 9223372036854775807) :
    Calls Try.prog 5 #[v0, .int .i64 a1, .int .i64 a2] w fun e w' => e = .returned (.bool true) ∧ Below w.heap.size w w' := by
  obtain ⟨xs0, hx0⟩ := bytes_xs b0
  letI : Toks := ⟨fun k => if k = 1 then a1 else if k = 2 then a2 else if k = 100 then a1 % 4 else if k = 101 then a2 % 30 else if 10000 ≤ k then xs0.getD (k - 10000) 0 else 0⟩
  have hT0 : ∀ k, k < 20 → Toks.B (10000 * (0 + 1) + k) = xs0.getD k 0 := by
    intro k hk
    show (if 10000 * (0 + 1) + k = 1 then a1 else if 10000 * (0 + 1) + k = 2 then a2 else if 10000 * (0 + 1) + k = 100 then a1 % 4 else if 10000 * (0 + 1) + k = 101 then a2 % 30 else if 10000 ≤ 10000 * (0 + 1) + k then xs0.getD (10000 * (0 + 1) + k - 10000) 0 else 0 : Int) = _
    rw [if_neg (by omega)]
    rw [if_neg (by omega)]
    rw [if_neg (by omega)]
    rw [if_neg (by omega)]
    rw [if_pos (by omega), show 10000 * (0 + 1) + k - 10000 = k by omega]
  have fin : ∀ (l : List (Nat × Nat × Nat × Nat × Nat)) (obs : List (AObj × Loc)) (u0 : Value), at_ l u0 (heapOf (obs.map (·.1))) = true → (∀ q ∈ l, (-9223372036854775808 ≤ Toks.A q.1 ∧ Toks.A q.1 ≤ 9223372036854775807) ∧ 1 ≤ (q.2.1 : Int) ∧ (q.2.1 : Int) ≤ 9223372036854775807 ∧ ∀ ρ : Ren, VR ρ (caseV q.2.2.1 (q.2.2.2.1, q.2.2.2.2)) (.int .i64 (Toks.A q.1 % (q.2.1 : Int)))) → ArgsHeld obs w → VR (fun i => (obs[i]?).map (·.2)) u0 v0 →
      Calls Try.prog 5 #[v0, .int .i64 a1, .int .i64 a2] w fun e w' => e = .returned (.bool true) ∧ Below w.heap.size w w' := by
    intro l obs u0 hc hok hob r0
    refine top_args (okF := cfg l) tabAll_ok ⟨overW_ok (tabOf l) (fun q hq => ?_) fun q hq => ?_, summAll_ok, summAll_mono⟩ mixed 3000 60 w hob ?_ hc
    · obtain ⟨x, hx, rfl⟩ := List.mem_map.1 hq
      exact (hok x hx).1
    · obtain ⟨x, hx, rfl⟩ := List.mem_map.1 hq
      exact (hok x hx).2
    · exact .cons (r0) (.cons (rfl) (.cons (rfl) .nil))
  have fin2 : ∀ (obs : List (AObj × Loc)) (hp : AHeap) (m0 : Nat) (u0 : Value), run m0 u0 hp = true → heapOf (obs.map (·.1)) = hp → m0 < 21 → ArgsHeld obs w → VR (fun i => (obs[i]?).map (·.2)) u0 v0 →
      Calls Try.prog 5 #[v0, .int .i64 a1, .int .i64 a2] w fun e w' => e = .returned (.bool true) ∧ Below w.heap.size w w' := by
    intro obs hp m0 u0 hc hhp hm0 hob r0
    subst hhp
    obtain ⟨c0, h0, e0⟩ := cover_get (t := 100) (n := 4) (l := cov0 m0) (cov0_ok m0 hm0) (a := a1) (by decide) rfl
    obtain ⟨c1, h1, e1⟩ := cover_get (t := 101) (n := 30) (l := cov1 m0 c0) (cov1_ok m0 c0 hm0 h0) (a := a2) (by decide) rfl
    unfold run at hc
    simp only [List.all_eq_true] at hc
    refine fin _ obs u0 (hc c0 h0 c1 h1) ?_ hob r0
    intro q hq
    simp only [List.mem_cons, List.not_mem_nil, or_false] at hq
    rcases hq with rfl | rfl
    · exact ⟨b1, (by show (1 : Int) ≤ 4; decide), (by show (4 : Int) ≤ 9223372036854775807; decide), e0⟩
    · exact ⟨b2, (by show (1 : Int) ≤ 30; decide), (by show (30 : Int) ≤ 9223372036854775807; decide), e1⟩
  rcases hx0 with rfl | ⟨b0_, off0, n0, c0_, cs0, el0, fz0, rfl, hn0, hw0, hl0, hx0⟩
  · skip
    have hc : run 0 (.slice none 0 0) (heapOf []) = true := by
      exact all0
    refine fin2 [] _ 0 _ hc rfl (by omega) ?_ (VR.flat rfl)
    intro q hq
    cases hq
  · obtain ⟨K0, hK0⟩ := Nat.exists_eq_add_of_le hn0
    rw [Nat.add_comm] at hK0
    subst hK0
    by_cases hz0 : n0 = 0
    · subst hz0
      cases K0 with
      | zero =>
        have hc : run 0 (.slice (some ⟨0, 0, none⟩) 0 (0 + 0)) (heapOf [⟨byteToks 0 0 0 ++ (xs0.drop 0).map (.int .u8), el0, 2, 1⟩]) = true := by
          exact all1 ((xs0.drop 0).map (.int .u8)) el0
        refine fin2 [(⟨byteToks 0 0 0 ++ (xs0.drop 0).map (.int .u8), el0, 2, 1⟩, ⟨b0_, 0, off0⟩)] _ 0 _ hc rfl (by omega) ?_ (bytes_rel (by omega) rfl)
        intro q hq
        simp only [List.mem_cons, List.not_mem_nil, or_false] at hq
        subst hq
        exact ⟨rfl, bytes_held (by omega) (by omega) hw0 hx0 (fun k hk => hT0 k (by omega)) (by omega)⟩
      | succ K0 =>
        have hc : run 0 (.slice (some ⟨0, 0, none⟩) 0 ((K0 + 1) + 0)) (heapOf [⟨byteToks 0 0 0 ++ (xs0.drop 0).map (.int .u8), el0, 2, 1⟩]) = true := by
          exact all2 ((xs0.drop 0).map (.int .u8)) el0 K0
        refine fin2 [(⟨byteToks 0 0 0 ++ (xs0.drop 0).map (.int .u8), el0, 2, 1⟩, ⟨b0_, 0, off0⟩)] _ 0 _ hc rfl (by omega) ?_ (bytes_rel (by omega) rfl)
        intro q hq
        simp only [List.mem_cons, List.not_mem_nil, or_false] at hq
        subst hq
        exact ⟨rfl, bytes_held (by omega) (by omega) hw0 hx0 (fun k hk => hT0 k (by omega)) (by omega)⟩
    by_cases hb0 : n0 < 21
    · obtain ⟨N0, hN0⟩ : ∃ N, N = n0 := ⟨_, rfl⟩
      subst hN0
      have hc : run N0 (.slice (some ⟨0, 0, none⟩) N0 (K0 + N0)) (heapOf [⟨byteToks 0 N0 0 ++ (xs0.drop N0).map (.int .u8), el0, 2, 1⟩]) = true := by
        by_cases hr : (1 ≤ N0 ∧ N0 < 2)
        · have h := all3 ((xs0.drop N0).map (.int .u8)) el0 K0
          simp only [List.all_eq_true, List.mem_range'_1] at h
          exact h N0 (by omega)
        by_cases hr : (2 ≤ N0 ∧ N0 < 3)
        · have h := all4 ((xs0.drop N0).map (.int .u8)) el0 K0
          simp only [List.all_eq_true, List.mem_range'_1] at h
          exact h N0 (by omega)
        by_cases hr : (3 ≤ N0 ∧ N0 < 4)
        · have h := all5 ((xs0.drop N0).map (.int .u8)) el0 K0
          simp only [List.all_eq_true, List.mem_range'_1] at h
          exact h N0 (by omega)
        by_cases hr : (4 ≤ N0 ∧ N0 < 5)
        · have h := all6 ((xs0.drop N0).map (.int .u8)) el0 K0
          simp only [List.all_eq_true, List.mem_range'_1] at h
          exact h N0 (by omega)
        by_cases hr : (5 ≤ N0 ∧ N0 < 6)
        · have h := all7 ((xs0.drop N0).map (.int .u8)) el0 K0
          simp only [List.all_eq_true, List.mem_range'_1] at h
          exact h N0 (by omega)
        by_cases hr : (6 ≤ N0 ∧ N0 < 7)
        · have h := all8 ((xs0.drop N0).map (.int .u8)) el0 K0
          simp only [List.all_eq_true, List.mem_range'_1] at h
          exact h N0 (by omega)
        by_cases hr : (7 ≤ N0 ∧ N0 < 8)
        · have h := all9 ((xs0.drop N0).map (.int .u8)) el0 K0
          simp only [List.all_eq_true, List.mem_range'_1] at h
          exact h N0 (by omega)
        by_cases hr : (8 ≤ N0 ∧ N0 < 9)
        · have h := all10 ((xs0.drop N0).map (.int .u8)) el0 K0
          simp only [List.all_eq_true, List.mem_range'_1] at h
          exact h N0 (by omega)
        by_cases hr : (9 ≤ N0 ∧ N0 < 10)
        · have h := all11 ((xs0.drop N0).map (.int .u8)) el0 K0
          simp only [List.all_eq_true, List.mem_range'_1] at h
          exact h N0 (by omega)
        by_cases hr : (10 ≤ N0 ∧ N0 < 11)
        · have h := all12 ((xs0.drop N0).map (.int .u8)) el0 K0
          simp only [List.all_eq_true, List.mem_range'_1] at h
          exact h N0 (by omega)
        by_cases hr : (11 ≤ N0 ∧ N0 < 12)
        · have h := all13 ((xs0.drop N0).map (.int .u8)) el0 K0
          simp only [List.all_eq_true, List.mem_range'_1] at h
          exact h N0 (by omega)
        by_cases hr : (12 ≤ N0 ∧ N0 < 13)
        · have h := all14 ((xs0.drop N0).map (.int .u8)) el0 K0
          simp only [List.all_eq_true, List.mem_range'_1] at h
          exact h N0 (by omega)
        by_cases hr : (13 ≤ N0 ∧ N0 < 14)
        · have h := all15 ((xs0.drop N0).map (.int .u8)) el0 K0
          simp only [List.all_eq_true, List.mem_range'_1] at h
          exact h N0 (by omega)
        by_cases hr : (14 ≤ N0 ∧ N0 < 15)
        · have h := all16 ((xs0.drop N0).map (.int .u8)) el0 K0
          simp only [List.all_eq_true, List.mem_range'_1] at h
          exact h N0 (by omega)
        by_cases hr : (15 ≤ N0 ∧ N0 < 16)
        · have h := all17 ((xs0.drop N0).map (.int .u8)) el0 K0
          simp only [List.all_eq_true, List.mem_range'_1] at h
          exact h N0 (by omega)
        by_cases hr : (16 ≤ N0 ∧ N0 < 17)
        · have h := all18 ((xs0.drop N0).map (.int .u8)) el0 K0
          simp only [List.all_eq_true, List.mem_range'_1] at h
          exact h N0 (by omega)
        by_cases hr : (17 ≤ N0 ∧ N0 < 18)
        · have h := all19 ((xs0.drop N0).map (.int .u8)) el0 K0
          simp only [List.all_eq_true, List.mem_range'_1] at h
          exact h N0 (by omega)
        by_cases hr : (18 ≤ N0 ∧ N0 < 19)
        · have h := all20 ((xs0.drop N0).map (.int .u8)) el0 K0
          simp only [List.all_eq_true, List.mem_range'_1] at h
          exact h N0 (by omega)
        by_cases hr : (19 ≤ N0 ∧ N0 < 20)
        · have h := all21 ((xs0.drop N0).map (.int .u8)) el0 K0
          simp only [List.all_eq_true, List.mem_range'_1] at h
          exact h N0 (by omega)
        have h := all22 ((xs0.drop N0).map (.int .u8)) el0 K0
        simp only [List.all_eq_true, List.mem_range'_1] at h
        exact h N0 (by omega)
      refine fin2 [(⟨byteToks 0 N0 0 ++ (xs0.drop N0).map (.int .u8), el0, 2, 1⟩, ⟨b0_, 0, off0⟩)] _ N0 _ hc rfl (by omega) ?_ (bytes_rel (by omega) rfl)
      intro q hq
      simp only [List.mem_cons, List.not_mem_nil, or_false] at hq
      subst hq
      exact ⟨rfl, bytes_held (by omega) (by omega) hw0 hx0 (fun k hk => hT0 k (by omega)) (by omega)⟩
    · obtain ⟨M0, hM0⟩ := Nat.exists_eq_add_of_le (Nat.le_of_not_lt hb0)
      rw [Nat.add_comm] at hM0
      subst hM0
      have hc : run 20 (.slice (some ⟨0, 0, none⟩) (M0 + 21) (K0 + (M0 + 21))) (heapOf [⟨byteToks 0 20 0 ++ (xs0.drop 20).map (.int .u8), el0, 2, 1⟩]) = true := by
        exact all23 ((xs0.drop 20).map (.int .u8)) el0 K0 M0
      refine fin2 [(⟨byteToks 0 20 0 ++ (xs0.drop 20).map (.int .u8), el0, 2, 1⟩, ⟨b0_, 0, off0⟩)] _ 20 _ hc rfl (by omega) ?_ (bytes_rel (by omega) rfl)
      intro q hq
      simp only [List.mem_cons, List.not_mem_nil, or_false] at hq
      subst hq
      exact ⟨rfl, bytes_held (by omega) (by omega) hw0 hx0 (fun k hk => hT0 k (by omega)) (by omega)⟩
end Go.Proofs.Ytfibgjognhimmaa.atomicCleans
