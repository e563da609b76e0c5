/- The walk of AtomicFull: the plain terms find it true, case by case. -/
import Derived.Test.YtfibgjognhimmaaALWL
namespace Go.Proofs.Ytfibgjognhimmaa.atomicFull
open Go.ChangeShapes Go.WideShapes Go.ChangeAt Go.RowKit
set_option maxRecDepth 1000000
set_option linter.unusedVariables false
theorem cov0_ok (m0 : Nat) (m1 : Nat) (hm0 : m0 < 31) (hm1 : m1 < 31) : coverOk 60 (cov0 m0 m1) = true := by
  have h : ((List.range 31).all fun m0 => (List.range 31).all fun m1 => coverOk 60 (cov0 m0 m1)) = true := by kernel_rfl
  simp only [List.all_eq_true, List.mem_range] at h
  exact h m0 hm0 m1 hm1
set_option maxHeartbeats 8000000 in
theorem walk (a0 : Int) (v1 : Value) (v2 : Value) (w : World) (b0 : -9223372036854775808 ≤ a0 ∧ a0 ≤ 9223372036854775807) (b1 : ByteArg w v1) (b2 : ByteArg w v2) :
    Calls Try.prog 6 #[.int .i64 a0, v1, v2] w fun e w' => e = .returned (.bool true) ∧ Below w.heap.size w w' := by
  obtain ⟨xs0, hx0⟩ := bytes_xs b1
  obtain ⟨xs1, hx1⟩ := bytes_xs b2
  letI : Toks := ⟨fun k => if k = 0 then a0 else if k = 100 then a0 % 60 else if 20000 ≤ k then xs1.getD (k - 20000) 0 else if 10000 ≤ k then xs0.getD (k - 10000) 0 else 0⟩
  have hT0 : ∀ k, k < 30 → Toks.B (10000 * (0 + 1) + k) = xs0.getD k 0 := by
    intro k hk
    show (if 10000 * (0 + 1) + k = 0 then a0 else if 10000 * (0 + 1) + k = 100 then a0 % 60 else if 20000 ≤ 10000 * (0 + 1) + k then xs1.getD (10000 * (0 + 1) + k - 20000) 0 else if 10000 ≤ 10000 * (0 + 1) + k then xs0.getD (10000 * (0 + 1) + k - 10000) 0 else 0 : Int) = _
    rw [if_neg (by omega)]
    rw [if_neg (by omega)]
    rw [if_neg (by omega)]
    rw [if_pos (by omega), show 10000 * (0 + 1) + k - 10000 = k by omega]
  have hT1 : ∀ k, k < 30 → Toks.B (10000 * (1 + 1) + k) = xs1.getD k 0 := by
    intro k hk
    show (if 10000 * (1 + 1) + k = 0 then a0 else if 10000 * (1 + 1) + k = 100 then a0 % 60 else if 20000 ≤ 10000 * (1 + 1) + k then xs1.getD (10000 * (1 + 1) + k - 20000) 0 else if 10000 ≤ 10000 * (1 + 1) + k then xs0.getD (10000 * (1 + 1) + k - 10000) 0 else 0 : Int) = _
    rw [if_neg (by omega)]
    rw [if_neg (by omega)]
    rw [if_pos (by omega), show 10000 * (1 + 1) + k - 20000 = k by omega]
  have fin : ∀ (l : List (Nat × Nat × Nat × Nat × Nat)) (obs : List (AObj × Loc)) (u1 : Value) (u2 : Value), at_ l u1 u2 (heapOf (obs.map (·.1))) = true → (∀ q ∈ l, (-9223372036854775808 ≤ Toks.A q.1 ∧ Toks.A q.1 ≤ 9223372036854775807) ∧ 1 ≤ (q.2.1 : Int) ∧ (q.2.1 : Int) ≤ 9223372036854775807 ∧ ∀ ρ : Ren, VR ρ (caseV q.2.2.1 (q.2.2.2.1, q.2.2.2.2)) (.int .i64 (Toks.A q.1 % (q.2.1 : Int)))) → ArgsHeld obs w → VR (fun i => (obs[i]?).map (·.2)) u1 v1 → VR (fun i => (obs[i]?).map (·.2)) u2 v2 →
      Calls Try.prog 6 #[.int .i64 a0, v1, v2] w fun e w' => e = .returned (.bool true) ∧ Below w.heap.size w w' := by
    intro l obs u1 u2 hc hok hob r1 r2
    refine top_args (okF := cfg l) tabAll_ok ⟨overW_ok (tabOf l) (fun q hq => ?_) fun q hq => ?_, summAll_ok, summAll_mono⟩ mixed 3000 60 w hob ?_ hc
    · obtain ⟨x, hx, rfl⟩ := List.mem_map.1 hq
      exact (hok x hx).1
    · obtain ⟨x, hx, rfl⟩ := List.mem_map.1 hq
      exact (hok x hx).2
    · exact .cons (rfl) (.cons (r1) (.cons (r2) .nil))
  have fin2 : ∀ (obs : List (AObj × Loc)) (hp : AHeap) (m0 : Nat) (m1 : Nat) (u1 : Value) (u2 : Value), run m0 m1 u1 u2 hp = true → heapOf (obs.map (·.1)) = hp → m0 < 31 → m1 < 31 → ArgsHeld obs w → VR (fun i => (obs[i]?).map (·.2)) u1 v1 → VR (fun i => (obs[i]?).map (·.2)) u2 v2 →
      Calls Try.prog 6 #[.int .i64 a0, v1, v2] w fun e w' => e = .returned (.bool true) ∧ Below w.heap.size w w' := by
    intro obs hp m0 m1 u1 u2 hc hhp hm0 hm1 hob r1 r2
    subst hhp
    obtain ⟨c0, h0, e0⟩ := cover_get (t := 100) (n := 60) (l := cov0 m0 m1) (cov0_ok m0 m1 hm0 hm1) (a := a0) (by decide) rfl
    unfold run at hc
    simp only [List.all_eq_true] at hc
    refine fin _ obs u1 u2 (hc c0 h0) ?_ hob r1 r2
    intro q hq
    simp only [List.mem_cons, List.not_mem_nil, or_false] at hq
    subst hq
    exact ⟨b0, (by show (1 : Int) ≤ 60; decide), (by show (60 : Int) ≤ 9223372036854775807; decide), e0⟩
  rcases hx0 with rfl | ⟨b0_, off0, n0, c0_, cs0, el0, fz0, rfl, hn0, hw0, hl0, hx0⟩
  · skip
    rcases hx1 with rfl | ⟨b1_, off1, n1, c1_, cs1, el1, fz1, rfl, hn1, hw1, hl1, hx1⟩
    · skip
      have hc : run 0 0 (.slice none 0 0) (.slice none 0 0) (heapOf []) = true := by
        exact all0
      refine fin2 [] _ 0 0 _ _ hc rfl (by omega) (by omega) ?_ (VR.flat rfl) (VR.flat rfl)
      intro q hq
      cases hq
    · obtain ⟨K1, hK1⟩ := Nat.exists_eq_add_of_le hn1
      rw [Nat.add_comm] at hK1
      subst hK1
      by_cases hz1 : n1 = 0
      · subst hz1
        cases K1 with
        | zero =>
          have hc : run 0 0 (.slice none 0 0) (.slice (some ⟨0, 0, none⟩) 0 (0 + 0)) (heapOf [⟨byteToks 1 0 0 ++ (xs1.drop 0).map (.int .u8), el1, 2, 1⟩]) = true := by
            exact all1 ((xs1.drop 0).map (.int .u8)) el1
          refine fin2 [(⟨byteToks 1 0 0 ++ (xs1.drop 0).map (.int .u8), el1, 2, 1⟩, ⟨b1_, 0, off1⟩)] _ 0 0 _ _ hc rfl (by omega) (by omega) ?_ (VR.flat rfl) (bytes_rel (by omega) rfl)
          intro q hq
          simp only [List.mem_cons, List.not_mem_nil, or_false] at hq
          subst hq
          exact ⟨rfl, bytes_held (by omega) (by omega) hw1 hx1 (fun k hk => hT1 k (by omega)) (by omega)⟩
        | succ K1 =>
          have hc : run 0 0 (.slice none 0 0) (.slice (some ⟨0, 0, none⟩) 0 ((K1 + 1) + 0)) (heapOf [⟨byteToks 1 0 0 ++ (xs1.drop 0).map (.int .u8), el1, 2, 1⟩]) = true := by
            exact all2 ((xs1.drop 0).map (.int .u8)) el1 K1
          refine fin2 [(⟨byteToks 1 0 0 ++ (xs1.drop 0).map (.int .u8), el1, 2, 1⟩, ⟨b1_, 0, off1⟩)] _ 0 0 _ _ hc rfl (by omega) (by omega) ?_ (VR.flat rfl) (bytes_rel (by omega) rfl)
          intro q hq
          simp only [List.mem_cons, List.not_mem_nil, or_false] at hq
          subst hq
          exact ⟨rfl, bytes_held (by omega) (by omega) hw1 hx1 (fun k hk => hT1 k (by omega)) (by omega)⟩
      by_cases hb1 : n1 < 31
      · obtain ⟨N1, hN1⟩ : ∃ N, N = n1 := ⟨_, rfl⟩
        subst hN1
        have hc : run 0 N1 (.slice none 0 0) (.slice (some ⟨0, 0, none⟩) N1 (K1 + N1)) (heapOf [⟨byteToks 1 N1 0 ++ (xs1.drop N1).map (.int .u8), el1, 2, 1⟩]) = true := by
          by_cases hr : N1 < 11
          · have h := all3 ((xs1.drop N1).map (.int .u8)) el1 K1
            simp only [List.all_eq_true, List.mem_range'_1] at h
            exact h N1 (by omega)
          by_cases hr : N1 < 21
          · have h := all4 ((xs1.drop N1).map (.int .u8)) el1 K1
            simp only [List.all_eq_true, List.mem_range'_1] at h
            exact h N1 (by omega)
          have h := all5 ((xs1.drop N1).map (.int .u8)) el1 K1
          simp only [List.all_eq_true, List.mem_range'_1] at h
          exact h N1 (by omega)
        refine fin2 [(⟨byteToks 1 N1 0 ++ (xs1.drop N1).map (.int .u8), el1, 2, 1⟩, ⟨b1_, 0, off1⟩)] _ 0 N1 _ _ hc rfl (by omega) (by omega) ?_ (VR.flat rfl) (bytes_rel (by omega) rfl)
        intro q hq
        simp only [List.mem_cons, List.not_mem_nil, or_false] at hq
        subst hq
        exact ⟨rfl, bytes_held (by omega) (by omega) hw1 hx1 (fun k hk => hT1 k (by omega)) (by omega)⟩
      · obtain ⟨M1, hM1⟩ := Nat.exists_eq_add_of_le (Nat.le_of_not_lt hb1)
        rw [Nat.add_comm] at hM1
        subst hM1
        have hc : run 0 30 (.slice none 0 0) (.slice (some ⟨0, 0, none⟩) (M1 + 31) (K1 + (M1 + 31))) (heapOf [⟨byteToks 1 30 0 ++ (xs1.drop 30).map (.int .u8), el1, 2, 1⟩]) = true := by
          exact all6 ((xs1.drop 30).map (.int .u8)) el1 K1 M1
        refine fin2 [(⟨byteToks 1 30 0 ++ (xs1.drop 30).map (.int .u8), el1, 2, 1⟩, ⟨b1_, 0, off1⟩)] _ 0 30 _ _ hc rfl (by omega) (by omega) ?_ (VR.flat rfl) (bytes_rel (by omega) rfl)
        intro q hq
        simp only [List.mem_cons, List.not_mem_nil, or_false] at hq
        subst hq
        exact ⟨rfl, bytes_held (by omega) (by omega) hw1 hx1 (fun k hk => hT1 k (by omega)) (by omega)⟩
  · obtain ⟨K0, hK0⟩ := Nat.exists_eq_add_of_le hn0
    rw [Nat.add_comm] at hK0
    subst hK0
    by_cases hz0 : n0 = 0
    · subst hz0
      cases K0 with
      | zero =>
        rcases hx1 with rfl | ⟨b1_, off1, n1, c1_, cs1, el1, fz1, rfl, hn1, hw1, hl1, hx1⟩
        · skip
          have hc : run 0 0 (.slice (some ⟨0, 0, none⟩) 0 (0 + 0)) (.slice none 0 0) (heapOf [⟨byteToks 0 0 0 ++ (xs0.drop 0).map (.int .u8), el0, 2, 1⟩]) = true := by
            exact all7 ((xs0.drop 0).map (.int .u8)) el0
          refine fin2 [(⟨byteToks 0 0 0 ++ (xs0.drop 0).map (.int .u8), el0, 2, 1⟩, ⟨b0_, 0, off0⟩)] _ 0 0 _ _ hc rfl (by omega) (by omega) ?_ (bytes_rel (by omega) rfl) (VR.flat rfl)
          intro q hq
          simp only [List.mem_cons, List.not_mem_nil, or_false] at hq
          subst hq
          exact ⟨rfl, bytes_held (by omega) (by omega) hw0 hx0 (fun k hk => hT0 k (by omega)) (by omega)⟩
        · obtain ⟨K1, hK1⟩ := Nat.exists_eq_add_of_le hn1
          rw [Nat.add_comm] at hK1
          subst hK1
          by_cases hz1 : n1 = 0
          · subst hz1
            cases K1 with
            | zero =>
              have hc : run 0 0 (.slice (some ⟨0, 0, none⟩) 0 (0 + 0)) (.slice (some ⟨1, 0, none⟩) 0 (0 + 0)) (heapOf [⟨byteToks 0 0 0 ++ (xs0.drop 0).map (.int .u8), el0, 2, 1⟩, ⟨byteToks 1 0 0 ++ (xs1.drop 0).map (.int .u8), el1, 2, 1⟩]) = true := by
                exact all8 ((xs0.drop 0).map (.int .u8)) el0 ((xs1.drop 0).map (.int .u8)) el1
              refine fin2 [(⟨byteToks 0 0 0 ++ (xs0.drop 0).map (.int .u8), el0, 2, 1⟩, ⟨b0_, 0, off0⟩), (⟨byteToks 1 0 0 ++ (xs1.drop 0).map (.int .u8), el1, 2, 1⟩, ⟨b1_, 0, off1⟩)] _ 0 0 _ _ hc rfl (by omega) (by omega) ?_ (bytes_rel (by omega) rfl) (bytes_rel (by omega) rfl)
              intro q hq
              simp only [List.mem_cons, List.not_mem_nil, or_false] at hq
              rcases hq with rfl | rfl
              · exact ⟨rfl, bytes_held (by omega) (by omega) hw0 hx0 (fun k hk => hT0 k (by omega)) (by omega)⟩
              · exact ⟨rfl, bytes_held (by omega) (by omega) hw1 hx1 (fun k hk => hT1 k (by omega)) (by omega)⟩
            | succ K1 =>
              have hc : run 0 0 (.slice (some ⟨0, 0, none⟩) 0 (0 + 0)) (.slice (some ⟨1, 0, none⟩) 0 ((K1 + 1) + 0)) (heapOf [⟨byteToks 0 0 0 ++ (xs0.drop 0).map (.int .u8), el0, 2, 1⟩, ⟨byteToks 1 0 0 ++ (xs1.drop 0).map (.int .u8), el1, 2, 1⟩]) = true := by
                exact all9 ((xs0.drop 0).map (.int .u8)) el0 ((xs1.drop 0).map (.int .u8)) el1 K1
              refine fin2 [(⟨byteToks 0 0 0 ++ (xs0.drop 0).map (.int .u8), el0, 2, 1⟩, ⟨b0_, 0, off0⟩), (⟨byteToks 1 0 0 ++ (xs1.drop 0).map (.int .u8), el1, 2, 1⟩, ⟨b1_, 0, off1⟩)] _ 0 0 _ _ hc rfl (by omega) (by omega) ?_ (bytes_rel (by omega) rfl) (bytes_rel (by omega) rfl)
              intro q hq
              simp only [List.mem_cons, List.not_mem_nil, or_false] at hq
              rcases hq with rfl | rfl
              · exact ⟨rfl, bytes_held (by omega) (by omega) hw0 hx0 (fun k hk => hT0 k (by omega)) (by omega)⟩
              · exact ⟨rfl, bytes_held (by omega) (by omega) hw1 hx1 (fun k hk => hT1 k (by omega)) (by omega)⟩
          by_cases hb1 : n1 < 31
          · obtain ⟨N1, hN1⟩ : ∃ N, N = n1 := ⟨_, rfl⟩
            subst hN1
            have hc : run 0 N1 (.slice (some ⟨0, 0, none⟩) 0 (0 + 0)) (.slice (some ⟨1, 0, none⟩) N1 (K1 + N1)) (heapOf [⟨byteToks 0 0 0 ++ (xs0.drop 0).map (.int .u8), el0, 2, 1⟩, ⟨byteToks 1 N1 0 ++ (xs1.drop N1).map (.int .u8), el1, 2, 1⟩]) = true := by
              by_cases hr : N1 < 11
              · have h := all10 ((xs0.drop 0).map (.int .u8)) el0 ((xs1.drop N1).map (.int .u8)) el1 K1
                simp only [List.all_eq_true, List.mem_range'_1] at h
                exact h N1 (by omega)
              by_cases hr : N1 < 21
              · have h := all11 ((xs0.drop 0).map (.int .u8)) el0 ((xs1.drop N1).map (.int .u8)) el1 K1
                simp only [List.all_eq_true, List.mem_range'_1] at h
                exact h N1 (by omega)
              have h := all12 ((xs0.drop 0).map (.int .u8)) el0 ((xs1.drop N1).map (.int .u8)) el1 K1
              simp only [List.all_eq_true, List.mem_range'_1] at h
              exact h N1 (by omega)
            refine fin2 [(⟨byteToks 0 0 0 ++ (xs0.drop 0).map (.int .u8), el0, 2, 1⟩, ⟨b0_, 0, off0⟩), (⟨byteToks 1 N1 0 ++ (xs1.drop N1).map (.int .u8), el1, 2, 1⟩, ⟨b1_, 0, off1⟩)] _ 0 N1 _ _ hc rfl (by omega) (by omega) ?_ (bytes_rel (by omega) rfl) (bytes_rel (by omega) rfl)
            intro q hq
            simp only [List.mem_cons, List.not_mem_nil, or_false] at hq
            rcases hq with rfl | rfl
            · exact ⟨rfl, bytes_held (by omega) (by omega) hw0 hx0 (fun k hk => hT0 k (by omega)) (by omega)⟩
            · exact ⟨rfl, bytes_held (by omega) (by omega) hw1 hx1 (fun k hk => hT1 k (by omega)) (by omega)⟩
          · obtain ⟨M1, hM1⟩ := Nat.exists_eq_add_of_le (Nat.le_of_not_lt hb1)
            rw [Nat.add_comm] at hM1
            subst hM1
            have hc : run 0 30 (.slice (some ⟨0, 0, none⟩) 0 (0 + 0)) (.slice (some ⟨1, 0, none⟩) (M1 + 31) (K1 + (M1 + 31))) (heapOf [⟨byteToks 0 0 0 ++ (xs0.drop 0).map (.int .u8), el0, 2, 1⟩, ⟨byteToks 1 30 0 ++ (xs1.drop 30).map (.int .u8), el1, 2, 1⟩]) = true := by
              exact all13 ((xs0.drop 0).map (.int .u8)) el0 ((xs1.drop 30).map (.int .u8)) el1 K1 M1
            refine fin2 [(⟨byteToks 0 0 0 ++ (xs0.drop 0).map (.int .u8), el0, 2, 1⟩, ⟨b0_, 0, off0⟩), (⟨byteToks 1 30 0 ++ (xs1.drop 30).map (.int .u8), el1, 2, 1⟩, ⟨b1_, 0, off1⟩)] _ 0 30 _ _ hc rfl (by omega) (by omega) ?_ (bytes_rel (by omega) rfl) (bytes_rel (by omega) rfl)
            intro q hq
            simp only [List.mem_cons, List.not_mem_nil, or_false] at hq
            rcases hq with rfl | rfl
            · exact ⟨rfl, bytes_held (by omega) (by omega) hw0 hx0 (fun k hk => hT0 k (by omega)) (by omega)⟩
            · exact ⟨rfl, bytes_held (by omega) (by omega) hw1 hx1 (fun k hk => hT1 k (by omega)) (by omega)⟩
      | succ K0 =>
        rcases hx1 with rfl | ⟨b1_, off1, n1, c1_, cs1, el1, fz1, rfl, hn1, hw1, hl1, hx1⟩
        · skip
          have hc : run 0 0 (.slice (some ⟨0, 0, none⟩) 0 ((K0 + 1) + 0)) (.slice none 0 0) (heapOf [⟨byteToks 0 0 0 ++ (xs0.drop 0).map (.int .u8), el0, 2, 1⟩]) = true := by
            exact all14 ((xs0.drop 0).map (.int .u8)) el0 K0
          refine fin2 [(⟨byteToks 0 0 0 ++ (xs0.drop 0).map (.int .u8), el0, 2, 1⟩, ⟨b0_, 0, off0⟩)] _ 0 0 _ _ hc rfl (by omega) (by omega) ?_ (bytes_rel (by omega) rfl) (VR.flat rfl)
          intro q hq
          simp only [List.mem_cons, List.not_mem_nil, or_false] at hq
          subst hq
          exact ⟨rfl, bytes_held (by omega) (by omega) hw0 hx0 (fun k hk => hT0 k (by omega)) (by omega)⟩
        · obtain ⟨K1, hK1⟩ := Nat.exists_eq_add_of_le hn1
          rw [Nat.add_comm] at hK1
          subst hK1
          by_cases hz1 : n1 = 0
          · subst hz1
            cases K1 with
            | zero =>
              have hc : run 0 0 (.slice (some ⟨0, 0, none⟩) 0 ((K0 + 1) + 0)) (.slice (some ⟨1, 0, none⟩) 0 (0 + 0)) (heapOf [⟨byteToks 0 0 0 ++ (xs0.drop 0).map (.int .u8), el0, 2, 1⟩, ⟨byteToks 1 0 0 ++ (xs1.drop 0).map (.int .u8), el1, 2, 1⟩]) = true := by
                exact all15 ((xs0.drop 0).map (.int .u8)) el0 K0 ((xs1.drop 0).map (.int .u8)) el1
              refine fin2 [(⟨byteToks 0 0 0 ++ (xs0.drop 0).map (.int .u8), el0, 2, 1⟩, ⟨b0_, 0, off0⟩), (⟨byteToks 1 0 0 ++ (xs1.drop 0).map (.int .u8), el1, 2, 1⟩, ⟨b1_, 0, off1⟩)] _ 0 0 _ _ hc rfl (by omega) (by omega) ?_ (bytes_rel (by omega) rfl) (bytes_rel (by omega) rfl)
              intro q hq
              simp only [List.mem_cons, List.not_mem_nil, or_false] at hq
              rcases hq with rfl | rfl
              · exact ⟨rfl, bytes_held (by omega) (by omega) hw0 hx0 (fun k hk => hT0 k (by omega)) (by omega)⟩
              · exact ⟨rfl, bytes_held (by omega) (by omega) hw1 hx1 (fun k hk => hT1 k (by omega)) (by omega)⟩
            | succ K1 =>
              have hc : run 0 0 (.slice (some ⟨0, 0, none⟩) 0 ((K0 + 1) + 0)) (.slice (some ⟨1, 0, none⟩) 0 ((K1 + 1) + 0)) (heapOf [⟨byteToks 0 0 0 ++ (xs0.drop 0).map (.int .u8), el0, 2, 1⟩, ⟨byteToks 1 0 0 ++ (xs1.drop 0).map (.int .u8), el1, 2, 1⟩]) = true := by
                exact all16 ((xs0.drop 0).map (.int .u8)) el0 K0 ((xs1.drop 0).map (.int .u8)) el1 K1
              refine fin2 [(⟨byteToks 0 0 0 ++ (xs0.drop 0).map (.int .u8), el0, 2, 1⟩, ⟨b0_, 0, off0⟩), (⟨byteToks 1 0 0 ++ (xs1.drop 0).map (.int .u8), el1, 2, 1⟩, ⟨b1_, 0, off1⟩)] _ 0 0 _ _ hc rfl (by omega) (by omega) ?_ (bytes_rel (by omega) rfl) (bytes_rel (by omega) rfl)
              intro q hq
              simp only [List.mem_cons, List.not_mem_nil, or_false] at hq
              rcases hq with rfl | rfl
              · exact ⟨rfl, bytes_held (by omega) (by omega) hw0 hx0 (fun k hk => hT0 k (by omega)) (by omega)⟩
              · exact ⟨rfl, bytes_held (by omega) (by omega) hw1 hx1 (fun k hk => hT1 k (by omega)) (by omega)⟩
          by_cases hb1 : n1 < 31
          · obtain ⟨N1, hN1⟩ : ∃ N, N = n1 := ⟨_, rfl⟩
            subst hN1
            have hc : run 0 N1 (.slice (some ⟨0, 0, none⟩) 0 ((K0 + 1) + 0)) (.slice (some ⟨1, 0, none⟩) N1 (K1 + N1)) (heapOf [⟨byteToks 0 0 0 ++ (xs0.drop 0).map (.int .u8), el0, 2, 1⟩, ⟨byteToks 1 N1 0 ++ (xs1.drop N1).map (.int .u8), el1, 2, 1⟩]) = true := by
              by_cases hr : N1 < 11
              · have h := all17 ((xs0.drop 0).map (.int .u8)) el0 K0 ((xs1.drop N1).map (.int .u8)) el1 K1
                simp only [List.all_eq_true, List.mem_range'_1] at h
                exact h N1 (by omega)
              by_cases hr : N1 < 21
              · have h := all18 ((xs0.drop 0).map (.int .u8)) el0 K0 ((xs1.drop N1).map (.int .u8)) el1 K1
                simp only [List.all_eq_true, List.mem_range'_1] at h
                exact h N1 (by omega)
              have h := all19 ((xs0.drop 0).map (.int .u8)) el0 K0 ((xs1.drop N1).map (.int .u8)) el1 K1
              simp only [List.all_eq_true, List.mem_range'_1] at h
              exact h N1 (by omega)
            refine fin2 [(⟨byteToks 0 0 0 ++ (xs0.drop 0).map (.int .u8), el0, 2, 1⟩, ⟨b0_, 0, off0⟩), (⟨byteToks 1 N1 0 ++ (xs1.drop N1).map (.int .u8), el1, 2, 1⟩, ⟨b1_, 0, off1⟩)] _ 0 N1 _ _ hc rfl (by omega) (by omega) ?_ (bytes_rel (by omega) rfl) (bytes_rel (by omega) rfl)
            intro q hq
            simp only [List.mem_cons, List.not_mem_nil, or_false] at hq
            rcases hq with rfl | rfl
            · exact ⟨rfl, bytes_held (by omega) (by omega) hw0 hx0 (fun k hk => hT0 k (by omega)) (by omega)⟩
            · exact ⟨rfl, bytes_held (by omega) (by omega) hw1 hx1 (fun k hk => hT1 k (by omega)) (by omega)⟩
          · obtain ⟨M1, hM1⟩ := Nat.exists_eq_add_of_le (Nat.le_of_not_lt hb1)
            rw [Nat.add_comm] at hM1
            subst hM1
            have hc : run 0 30 (.slice (some ⟨0, 0, none⟩) 0 ((K0 + 1) + 0)) (.slice (some ⟨1, 0, none⟩) (M1 + 31) (K1 + (M1 + 31))) (heapOf [⟨byteToks 0 0 0 ++ (xs0.drop 0).map (.int .u8), el0, 2, 1⟩, ⟨byteToks 1 30 0 ++ (xs1.drop 30).map (.int .u8), el1, 2, 1⟩]) = true := by
              exact all20 ((xs0.drop 0).map (.int .u8)) el0 K0 ((xs1.drop 30).map (.int .u8)) el1 K1 M1
            refine fin2 [(⟨byteToks 0 0 0 ++ (xs0.drop 0).map (.int .u8), el0, 2, 1⟩, ⟨b0_, 0, off0⟩), (⟨byteToks 1 30 0 ++ (xs1.drop 30).map (.int .u8), el1, 2, 1⟩, ⟨b1_, 0, off1⟩)] _ 0 30 _ _ hc rfl (by omega) (by omega) ?_ (bytes_rel (by omega) rfl) (bytes_rel (by omega) rfl)
            intro q hq
            simp only [List.mem_cons, List.not_mem_nil, or_false] at hq
            rcases hq with rfl | rfl
            · exact ⟨rfl, bytes_held (by omega) (by omega) hw0 hx0 (fun k hk => hT0 k (by omega)) (by omega)⟩
            · exact ⟨rfl, bytes_held (by omega) (by omega) hw1 hx1 (fun k hk => hT1 k (by omega)) (by omega)⟩
    by_cases hb0 : n0 < 31
    · obtain ⟨N0, hN0⟩ : ∃ N, N = n0 := ⟨_, rfl⟩
      subst hN0
      rcases hx1 with rfl | ⟨b1_, off1, n1, c1_, cs1, el1, fz1, rfl, hn1, hw1, hl1, hx1⟩
      · skip
        have hc : run N0 0 (.slice (some ⟨0, 0, none⟩) N0 (K0 + N0)) (.slice none 0 0) (heapOf [⟨byteToks 0 N0 0 ++ (xs0.drop N0).map (.int .u8), el0, 2, 1⟩]) = true := by
          by_cases hr : N0 < 11
          · have h := all21 ((xs0.drop N0).map (.int .u8)) el0 K0
            simp only [List.all_eq_true, List.mem_range'_1] at h
            exact h N0 (by omega)
          by_cases hr : N0 < 21
          · have h := all22 ((xs0.drop N0).map (.int .u8)) el0 K0
            simp only [List.all_eq_true, List.mem_range'_1] at h
            exact h N0 (by omega)
          have h := all23 ((xs0.drop N0).map (.int .u8)) el0 K0
          simp only [List.all_eq_true, List.mem_range'_1] at h
          exact h N0 (by omega)
        refine fin2 [(⟨byteToks 0 N0 0 ++ (xs0.drop N0).map (.int .u8), el0, 2, 1⟩, ⟨b0_, 0, off0⟩)] _ N0 0 _ _ hc rfl (by omega) (by omega) ?_ (bytes_rel (by omega) rfl) (VR.flat rfl)
        intro q hq
        simp only [List.mem_cons, List.not_mem_nil, or_false] at hq
        subst hq
        exact ⟨rfl, bytes_held (by omega) (by omega) hw0 hx0 (fun k hk => hT0 k (by omega)) (by omega)⟩
      · obtain ⟨K1, hK1⟩ := Nat.exists_eq_add_of_le hn1
        rw [Nat.add_comm] at hK1
        subst hK1
        by_cases hz1 : n1 = 0
        · subst hz1
          cases K1 with
          | zero =>
            have hc : run N0 0 (.slice (some ⟨0, 0, none⟩) N0 (K0 + N0)) (.slice (some ⟨1, 0, none⟩) 0 (0 + 0)) (heapOf [⟨byteToks 0 N0 0 ++ (xs0.drop N0).map (.int .u8), el0, 2, 1⟩, ⟨byteToks 1 0 0 ++ (xs1.drop 0).map (.int .u8), el1, 2, 1⟩]) = true := by
              by_cases hr : N0 < 11
              · have h := all24 ((xs0.drop N0).map (.int .u8)) el0 K0 ((xs1.drop 0).map (.int .u8)) el1
                simp only [List.all_eq_true, List.mem_range'_1] at h
                exact h N0 (by omega)
              by_cases hr : N0 < 21
              · have h := all25 ((xs0.drop N0).map (.int .u8)) el0 K0 ((xs1.drop 0).map (.int .u8)) el1
                simp only [List.all_eq_true, List.mem_range'_1] at h
                exact h N0 (by omega)
              have h := all26 ((xs0.drop N0).map (.int .u8)) el0 K0 ((xs1.drop 0).map (.int .u8)) el1
              simp only [List.all_eq_true, List.mem_range'_1] at h
              exact h N0 (by omega)
            refine fin2 [(⟨byteToks 0 N0 0 ++ (xs0.drop N0).map (.int .u8), el0, 2, 1⟩, ⟨b0_, 0, off0⟩), (⟨byteToks 1 0 0 ++ (xs1.drop 0).map (.int .u8), el1, 2, 1⟩, ⟨b1_, 0, off1⟩)] _ N0 0 _ _ hc rfl (by omega) (by omega) ?_ (bytes_rel (by omega) rfl) (bytes_rel (by omega) rfl)
            intro q hq
            simp only [List.mem_cons, List.not_mem_nil, or_false] at hq
            rcases hq with rfl | rfl
            · exact ⟨rfl, bytes_held (by omega) (by omega) hw0 hx0 (fun k hk => hT0 k (by omega)) (by omega)⟩
            · exact ⟨rfl, bytes_held (by omega) (by omega) hw1 hx1 (fun k hk => hT1 k (by omega)) (by omega)⟩
          | succ K1 =>
            have hc : run N0 0 (.slice (some ⟨0, 0, none⟩) N0 (K0 + N0)) (.slice (some ⟨1, 0, none⟩) 0 ((K1 + 1) + 0)) (heapOf [⟨byteToks 0 N0 0 ++ (xs0.drop N0).map (.int .u8), el0, 2, 1⟩, ⟨byteToks 1 0 0 ++ (xs1.drop 0).map (.int .u8), el1, 2, 1⟩]) = true := by
              by_cases hr : N0 < 11
              · have h := all27 ((xs0.drop N0).map (.int .u8)) el0 K0 ((xs1.drop 0).map (.int .u8)) el1 K1
                simp only [List.all_eq_true, List.mem_range'_1] at h
                exact h N0 (by omega)
              by_cases hr : N0 < 21
              · have h := all28 ((xs0.drop N0).map (.int .u8)) el0 K0 ((xs1.drop 0).map (.int .u8)) el1 K1
                simp only [List.all_eq_true, List.mem_range'_1] at h
                exact h N0 (by omega)
              have h := all29 ((xs0.drop N0).map (.int .u8)) el0 K0 ((xs1.drop 0).map (.int .u8)) el1 K1
              simp only [List.all_eq_true, List.mem_range'_1] at h
              exact h N0 (by omega)
            refine fin2 [(⟨byteToks 0 N0 0 ++ (xs0.drop N0).map (.int .u8), el0, 2, 1⟩, ⟨b0_, 0, off0⟩), (⟨byteToks 1 0 0 ++ (xs1.drop 0).map (.int .u8), el1, 2, 1⟩, ⟨b1_, 0, off1⟩)] _ N0 0 _ _ hc rfl (by omega) (by omega) ?_ (bytes_rel (by omega) rfl) (bytes_rel (by omega) rfl)
            intro q hq
            simp only [List.mem_cons, List.not_mem_nil, or_false] at hq
            rcases hq with rfl | rfl
            · exact ⟨rfl, bytes_held (by omega) (by omega) hw0 hx0 (fun k hk => hT0 k (by omega)) (by omega)⟩
            · exact ⟨rfl, bytes_held (by omega) (by omega) hw1 hx1 (fun k hk => hT1 k (by omega)) (by omega)⟩
        by_cases hb1 : n1 < 31
        · obtain ⟨N1, hN1⟩ : ∃ N, N = n1 := ⟨_, rfl⟩
          subst hN1
          have hc : run N0 N1 (.slice (some ⟨0, 0, none⟩) N0 (K0 + N0)) (.slice (some ⟨1, 0, none⟩) N1 (K1 + N1)) (heapOf [⟨byteToks 0 N0 0 ++ (xs0.drop N0).map (.int .u8), el0, 2, 1⟩, ⟨byteToks 1 N1 0 ++ (xs1.drop N1).map (.int .u8), el1, 2, 1⟩]) = true := by
            exact ll ((xs0.drop N0).map (.int .u8)) el0 K0 ((xs1.drop N1).map (.int .u8)) el1 K1 N0 N1 (by omega) (by omega)
          refine fin2 [(⟨byteToks 0 N0 0 ++ (xs0.drop N0).map (.int .u8), el0, 2, 1⟩, ⟨b0_, 0, off0⟩), (⟨byteToks 1 N1 0 ++ (xs1.drop N1).map (.int .u8), el1, 2, 1⟩, ⟨b1_, 0, off1⟩)] _ N0 N1 _ _ hc rfl (by omega) (by omega) ?_ (bytes_rel (by omega) rfl) (bytes_rel (by omega) rfl)
          intro q hq
          simp only [List.mem_cons, List.not_mem_nil, or_false] at hq
          rcases hq with rfl | rfl
          · exact ⟨rfl, bytes_held (by omega) (by omega) hw0 hx0 (fun k hk => hT0 k (by omega)) (by omega)⟩
          · exact ⟨rfl, bytes_held (by omega) (by omega) hw1 hx1 (fun k hk => hT1 k (by omega)) (by omega)⟩
        · obtain ⟨M1, hM1⟩ := Nat.exists_eq_add_of_le (Nat.le_of_not_lt hb1)
          rw [Nat.add_comm] at hM1
          subst hM1
          have hc : run N0 30 (.slice (some ⟨0, 0, none⟩) N0 (K0 + N0)) (.slice (some ⟨1, 0, none⟩) (M1 + 31) (K1 + (M1 + 31))) (heapOf [⟨byteToks 0 N0 0 ++ (xs0.drop N0).map (.int .u8), el0, 2, 1⟩, ⟨byteToks 1 30 0 ++ (xs1.drop 30).map (.int .u8), el1, 2, 1⟩]) = true := by
            by_cases hr : N0 < 11
            · have h := all120 ((xs0.drop N0).map (.int .u8)) el0 K0 ((xs1.drop 30).map (.int .u8)) el1 K1 M1
              simp only [List.all_eq_true, List.mem_range'_1] at h
              exact h N0 (by omega)
            by_cases hr : N0 < 21
            · have h := all121 ((xs0.drop N0).map (.int .u8)) el0 K0 ((xs1.drop 30).map (.int .u8)) el1 K1 M1
              simp only [List.all_eq_true, List.mem_range'_1] at h
              exact h N0 (by omega)
            have h := all122 ((xs0.drop N0).map (.int .u8)) el0 K0 ((xs1.drop 30).map (.int .u8)) el1 K1 M1
            simp only [List.all_eq_true, List.mem_range'_1] at h
            exact h N0 (by omega)
          refine fin2 [(⟨byteToks 0 N0 0 ++ (xs0.drop N0).map (.int .u8), el0, 2, 1⟩, ⟨b0_, 0, off0⟩), (⟨byteToks 1 30 0 ++ (xs1.drop 30).map (.int .u8), el1, 2, 1⟩, ⟨b1_, 0, off1⟩)] _ N0 30 _ _ hc rfl (by omega) (by omega) ?_ (bytes_rel (by omega) rfl) (bytes_rel (by omega) rfl)
          intro q hq
          simp only [List.mem_cons, List.not_mem_nil, or_false] at hq
          rcases hq with rfl | rfl
          · exact ⟨rfl, bytes_held (by omega) (by omega) hw0 hx0 (fun k hk => hT0 k (by omega)) (by omega)⟩
          · exact ⟨rfl, bytes_held (by omega) (by omega) hw1 hx1 (fun k hk => hT1 k (by omega)) (by omega)⟩
    · obtain ⟨M0, hM0⟩ := Nat.exists_eq_add_of_le (Nat.le_of_not_lt hb0)
      rw [Nat.add_comm] at hM0
      subst hM0
      rcases hx1 with rfl | ⟨b1_, off1, n1, c1_, cs1, el1, fz1, rfl, hn1, hw1, hl1, hx1⟩
      · skip
        have hc : run 30 0 (.slice (some ⟨0, 0, none⟩) (M0 + 31) (K0 + (M0 + 31))) (.slice none 0 0) (heapOf [⟨byteToks 0 30 0 ++ (xs0.drop 30).map (.int .u8), el0, 2, 1⟩]) = true := by
          exact all123 ((xs0.drop 30).map (.int .u8)) el0 K0 M0
        refine fin2 [(⟨byteToks 0 30 0 ++ (xs0.drop 30).map (.int .u8), el0, 2, 1⟩, ⟨b0_, 0, off0⟩)] _ 30 0 _ _ hc rfl (by omega) (by omega) ?_ (bytes_rel (by omega) rfl) (VR.flat rfl)
        intro q hq
        simp only [List.mem_cons, List.not_mem_nil, or_false] at hq
        subst hq
        exact ⟨rfl, bytes_held (by omega) (by omega) hw0 hx0 (fun k hk => hT0 k (by omega)) (by omega)⟩
      · obtain ⟨K1, hK1⟩ := Nat.exists_eq_add_of_le hn1
        rw [Nat.add_comm] at hK1
        subst hK1
        by_cases hz1 : n1 = 0
        · subst hz1
          cases K1 with
          | zero =>
            have hc : run 30 0 (.slice (some ⟨0, 0, none⟩) (M0 + 31) (K0 + (M0 + 31))) (.slice (some ⟨1, 0, none⟩) 0 (0 + 0)) (heapOf [⟨byteToks 0 30 0 ++ (xs0.drop 30).map (.int .u8), el0, 2, 1⟩, ⟨byteToks 1 0 0 ++ (xs1.drop 0).map (.int .u8), el1, 2, 1⟩]) = true := by
              exact all124 ((xs0.drop 30).map (.int .u8)) el0 K0 M0 ((xs1.drop 0).map (.int .u8)) el1
            refine fin2 [(⟨byteToks 0 30 0 ++ (xs0.drop 30).map (.int .u8), el0, 2, 1⟩, ⟨b0_, 0, off0⟩), (⟨byteToks 1 0 0 ++ (xs1.drop 0).map (.int .u8), el1, 2, 1⟩, ⟨b1_, 0, off1⟩)] _ 30 0 _ _ hc rfl (by omega) (by omega) ?_ (bytes_rel (by omega) rfl) (bytes_rel (by omega) rfl)
            intro q hq
            simp only [List.mem_cons, List.not_mem_nil, or_false] at hq
            rcases hq with rfl | rfl
            · exact ⟨rfl, bytes_held (by omega) (by omega) hw0 hx0 (fun k hk => hT0 k (by omega)) (by omega)⟩
            · exact ⟨rfl, bytes_held (by omega) (by omega) hw1 hx1 (fun k hk => hT1 k (by omega)) (by omega)⟩
          | succ K1 =>
            have hc : run 30 0 (.slice (some ⟨0, 0, none⟩) (M0 + 31) (K0 + (M0 + 31))) (.slice (some ⟨1, 0, none⟩) 0 ((K1 + 1) + 0)) (heapOf [⟨byteToks 0 30 0 ++ (xs0.drop 30).map (.int .u8), el0, 2, 1⟩, ⟨byteToks 1 0 0 ++ (xs1.drop 0).map (.int .u8), el1, 2, 1⟩]) = true := by
              exact all125 ((xs0.drop 30).map (.int .u8)) el0 K0 M0 ((xs1.drop 0).map (.int .u8)) el1 K1
            refine fin2 [(⟨byteToks 0 30 0 ++ (xs0.drop 30).map (.int .u8), el0, 2, 1⟩, ⟨b0_, 0, off0⟩), (⟨byteToks 1 0 0 ++ (xs1.drop 0).map (.int .u8), el1, 2, 1⟩, ⟨b1_, 0, off1⟩)] _ 30 0 _ _ hc rfl (by omega) (by omega) ?_ (bytes_rel (by omega) rfl) (bytes_rel (by omega) rfl)
            intro q hq
            simp only [List.mem_cons, List.not_mem_nil, or_false] at hq
            rcases hq with rfl | rfl
            · exact ⟨rfl, bytes_held (by omega) (by omega) hw0 hx0 (fun k hk => hT0 k (by omega)) (by omega)⟩
            · exact ⟨rfl, bytes_held (by omega) (by omega) hw1 hx1 (fun k hk => hT1 k (by omega)) (by omega)⟩
        by_cases hb1 : n1 < 31
        · obtain ⟨N1, hN1⟩ : ∃ N, N = n1 := ⟨_, rfl⟩
          subst hN1
          have hc : run 30 N1 (.slice (some ⟨0, 0, none⟩) (M0 + 31) (K0 + (M0 + 31))) (.slice (some ⟨1, 0, none⟩) N1 (K1 + N1)) (heapOf [⟨byteToks 0 30 0 ++ (xs0.drop 30).map (.int .u8), el0, 2, 1⟩, ⟨byteToks 1 N1 0 ++ (xs1.drop N1).map (.int .u8), el1, 2, 1⟩]) = true := by
            by_cases hr : N1 < 11
            · have h := all126 ((xs0.drop 30).map (.int .u8)) el0 K0 M0 ((xs1.drop N1).map (.int .u8)) el1 K1
              simp only [List.all_eq_true, List.mem_range'_1] at h
              exact h N1 (by omega)
            by_cases hr : N1 < 21
            · have h := all127 ((xs0.drop 30).map (.int .u8)) el0 K0 M0 ((xs1.drop N1).map (.int .u8)) el1 K1
              simp only [List.all_eq_true, List.mem_range'_1] at h
              exact h N1 (by omega)
            have h := all128 ((xs0.drop 30).map (.int .u8)) el0 K0 M0 ((xs1.drop N1).map (.int .u8)) el1 K1
            simp only [List.all_eq_true, List.mem_range'_1] at h
            exact h N1 (by omega)
          refine fin2 [(⟨byteToks 0 30 0 ++ (xs0.drop 30).map (.int .u8), el0, 2, 1⟩, ⟨b0_, 0, off0⟩), (⟨byteToks 1 N1 0 ++ (xs1.drop N1).map (.int .u8), el1, 2, 1⟩, ⟨b1_, 0, off1⟩)] _ 30 N1 _ _ hc rfl (by omega) (by omega) ?_ (bytes_rel (by omega) rfl) (bytes_rel (by omega) rfl)
          intro q hq
          simp only [List.mem_cons, List.not_mem_nil, or_false] at hq
          rcases hq with rfl | rfl
          · exact ⟨rfl, bytes_held (by omega) (by omega) hw0 hx0 (fun k hk => hT0 k (by omega)) (by omega)⟩
          · exact ⟨rfl, bytes_held (by omega) (by omega) hw1 hx1 (fun k hk => hT1 k (by omega)) (by omega)⟩
        · obtain ⟨M1, hM1⟩ := Nat.exists_eq_add_of_le (Nat.le_of_not_lt hb1)
          rw [Nat.add_comm] at hM1
          subst hM1
          have hc : run 30 30 (.slice (some ⟨0, 0, none⟩) (M0 + 31) (K0 + (M0 + 31))) (.slice (some ⟨1, 0, none⟩) (M1 + 31) (K1 + (M1 + 31))) (heapOf [⟨byteToks 0 30 0 ++ (xs0.drop 30).map (.int .u8), el0, 2, 1⟩, ⟨byteToks 1 30 0 ++ (xs1.drop 30).map (.int .u8), el1, 2, 1⟩]) = true := by
            exact all129 ((xs0.drop 30).map (.int .u8)) el0 K0 M0 ((xs1.drop 30).map (.int .u8)) el1 K1 M1
          refine fin2 [(⟨byteToks 0 30 0 ++ (xs0.drop 30).map (.int .u8), el0, 2, 1⟩, ⟨b0_, 0, off0⟩), (⟨byteToks 1 30 0 ++ (xs1.drop 30).map (.int .u8), el1, 2, 1⟩, ⟨b1_, 0, off1⟩)] _ 30 30 _ _ hc rfl (by omega) (by omega) ?_ (bytes_rel (by omega) rfl) (bytes_rel (by omega) rfl)
          intro q hq
          simp only [List.mem_cons, List.not_mem_nil, or_false] at hq
          rcases hq with rfl | rfl
          · exact ⟨rfl, bytes_held (by omega) (by omega) hw0 hx0 (fun k hk => hT0 k (by omega)) (by omega)⟩
          · exact ⟨rfl, bytes_held (by omega) (by omega) hw1 hx1 (fun k hk => hT1 k (by omega)) (by omega)⟩
end Go.Proofs.Ytfibgjognhimmaa.atomicFull
