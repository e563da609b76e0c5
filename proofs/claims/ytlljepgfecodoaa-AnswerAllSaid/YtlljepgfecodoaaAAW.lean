/- The walk of AnswerAll: the plain terms find it true, case by case. -/
import Derived.Test.YtlljepgfecodoaaAAWM
namespace Go.Proofs.Ytlljepgfecodoaa.answerAll
open Go.ChangeShapes Go.WideShapes Go.ChangeAt Go.RowKit
set_option maxRecDepth 1000000
set_option linter.unusedVariables false
theorem cov0_ok (m0 : Nat) (hm0 : m0 < 5) : coverOk 6 (cov0 m0) = true := by
  have h : ((List.range 5).all fun m0 => coverOk 6 (cov0 m0)) = true := by kernel_rfl
  simp only [List.all_eq_true, List.mem_range] at h
  exact h m0 hm0
theorem cov1_ok (m0 : Nat) (c0 : Nat × Nat) (hm0 : m0 < 5) (h0 : c0 ∈ cov0 m0) : coverOk 8 (cov1 m0 c0) = true := by
  have h : ((List.range 5).all fun m0 => (cov0 m0).all fun c0 => coverOk 8 (cov1 m0 c0)) = true := by kernel_rfl
  simp only [List.all_eq_true, List.mem_range] at h
  exact h m0 hm0 c0 h0
theorem cov2_ok (m0 : Nat) (c0 : Nat × Nat) (c1 : Nat × Nat) (hm0 : m0 < 5) (h0 : c0 ∈ cov0 m0) (h1 : c1 ∈ cov1 m0 c0) : coverOk 8 (cov2 m0 c0 c1) = true := by
  have h : ((List.range 5).all fun m0 => (cov0 m0).all fun c0 => (cov1 m0 c0).all fun c1 => coverOk 8 (cov2 m0 c0 c1)) = true := by kernel_rfl
  simp only [List.all_eq_true, List.mem_range] at h
  exact h m0 hm0 c0 h0 c1 h1
theorem cov3_ok (m0 : Nat) (c0 : Nat × Nat) (c1 : Nat × Nat) (c2 : Nat × Nat) (hm0 : m0 < 5) (h0 : c0 ∈ cov0 m0) (h1 : c1 ∈ cov1 m0 c0) (h2 : c2 ∈ cov2 m0 c0 c1) : coverOk 8 (cov3 m0 c0 c1 c2) = true := by
  have h : ((List.range 5).all fun m0 => (cov0 m0).all fun c0 => (cov1 m0 c0).all fun c1 => (cov2 m0 c0 c1).all fun c2 => coverOk 8 (cov3 m0 c0 c1 c2)) = true := by kernel_rfl
  simp only [List.all_eq_true, List.mem_range] at h
  exact h m0 hm0 c0 h0 c1 h1 c2 h2
theorem cov4_ok (m0 : Nat) (c0 : Nat × Nat) (c1 : Nat × Nat) (c2 : Nat × Nat) (c3 : Nat × Nat) (hm0 : m0 < 5) (h0 : c0 ∈ cov0 m0) (h1 : c1 ∈ cov1 m0 c0) (h2 : c2 ∈ cov2 m0 c0 c1) (h3 : c3 ∈ cov3 m0 c0 c1 c2) : coverOk 8 (cov4 m0 c0 c1 c2 c3) = true := by
  have h : ((List.range 5).all fun m0 => (cov0 m0).all fun c0 => (cov1 m0 c0).all fun c1 => (cov2 m0 c0 c1).all fun c2 => (cov3 m0 c0 c1 c2).all fun c3 => coverOk 8 (cov4 m0 c0 c1 c2 c3)) = true := by kernel_rfl
  simp only [List.all_eq_true, List.mem_range] at h
  exact h m0 hm0 c0 h0 c1 h1 c2 h2 c3 h3
set_option maxHeartbeats 8000000 in
theorem walk (a0 : Int) (v1 : Value) (w : World) (b0 : -9223372036854775808 ≤ a0 ∧ a0 ≤ 9223372036854775807) (b1 : IntsArg w v1) :
    Calls Try.prog 4 #[.int .i64 a0, v1] w fun e w' => e = .returned (.bool true) ∧ Below w.heap.size w w' := by
  obtain ⟨xs0, hd0, hx0⟩ := ints_xs b1
  letI : Toks := ⟨fun k => if k = 0 then a0 else if k = 100 then a0 % 6 else if k = 101 then (xs0.getD 0 0) % 8 else if k = 102 then (xs0.getD 1 0) % 8 else if k = 103 then (xs0.getD 2 0) % 8 else if k = 104 then (xs0.getD 3 0) % 8 else if 500000 ≤ k then xs0.getD (k - 500000) 0 else 0⟩
  have hT0 : ∀ k, k < 4 → Toks.B (500000 + 10000 * 0 + k) = xs0.getD k 0 := by
    intro k hk
    show (if 500000 + 10000 * 0 + k = 0 then a0 else if 500000 + 10000 * 0 + k = 100 then a0 % 6 else if 500000 + 10000 * 0 + k = 101 then (xs0.getD 0 0) % 8 else if 500000 + 10000 * 0 + k = 102 then (xs0.getD 1 0) % 8 else if 500000 + 10000 * 0 + k = 103 then (xs0.getD 2 0) % 8 else if 500000 + 10000 * 0 + k = 104 then (xs0.getD 3 0) % 8 else if 500000 ≤ 500000 + 10000 * 0 + k then xs0.getD (500000 + 10000 * 0 + k - 500000) 0 else 0 : Int) = _
    rw [if_neg (by omega)]
    rw [if_neg (by omega)]
    rw [if_neg (by omega)]
    rw [if_neg (by omega)]
    rw [if_neg (by omega)]
    rw [if_neg (by omega)]
    rw [if_pos (by omega), show 500000 + 10000 * 0 + k - 500000 = k by omega]
  have hE1 : Toks.A 500000 = xs0.getD 0 0 := (Toks.A_low (by decide)).trans (hT0 0 (by decide))
  have hE2 : Toks.A 500001 = xs0.getD 1 0 := (Toks.A_low (by decide)).trans (hT0 1 (by decide))
  have hE3 : Toks.A 500002 = xs0.getD 2 0 := (Toks.A_low (by decide)).trans (hT0 2 (by decide))
  have hE4 : Toks.A 500003 = xs0.getD 3 0 := (Toks.A_low (by decide)).trans (hT0 3 (by decide))
  have fin : ∀ (l : List (Nat × Nat × Nat × Nat × Nat)) (obs : List (AObj × Loc)) (u1 : Value), at_ l u1 (heapOf (obs.map (·.1))) = true → (∀ q ∈ l, (-9223372036854775808 ≤ Toks.A q.1 ∧ Toks.A q.1 ≤ 9223372036854775807) ∧ 1 ≤ (q.2.1 : Int) ∧ (q.2.1 : Int) ≤ 9223372036854775807 ∧ ∀ ρ : Ren, VR ρ (caseV q.2.2.1 (q.2.2.2.1, q.2.2.2.2)) (.int .i64 (Toks.A q.1 % (q.2.1 : Int)))) → ArgsHeld obs w → VR (fun i => (obs[i]?).map (·.2)) u1 v1 →
      Calls Try.prog 4 #[.int .i64 a0, v1] w fun e w' => e = .returned (.bool true) ∧ Below w.heap.size w w' := by
    intro l obs u1 hc hok hob r1
    refine top_args (okF := cfg l) tabAll_ok ⟨overW_ok (tabOf l) (fun q hq => ?_) fun q hq => ?_, summAll_ok, summAll_mono⟩ mixed 3000 60 w hob ?_ hc
    · obtain ⟨x, hx, rfl⟩ := List.mem_map.1 hq
      exact (hok x hx).1
    · obtain ⟨x, hx, rfl⟩ := List.mem_map.1 hq
      exact (hok x hx).2
    · exact .cons (rfl) (.cons (r1) .nil)
  have fin2 : ∀ (obs : List (AObj × Loc)) (hp : AHeap) (m0 : Nat) (u1 : Value), run m0 u1 hp = true → heapOf (obs.map (·.1)) = hp → m0 < 5 → ArgsHeld obs w → VR (fun i => (obs[i]?).map (·.2)) u1 v1 →
      Calls Try.prog 4 #[.int .i64 a0, v1] w fun e w' => e = .returned (.bool true) ∧ Below w.heap.size w w' := by
    intro obs hp m0 u1 hc hhp hm0 hob r1
    subst hhp
    obtain ⟨c0, h0, e0⟩ := cover_get (t := 100) (n := 6) (l := cov0 m0) (cov0_ok m0 hm0) (a := a0) (by decide) rfl
    obtain ⟨c1, h1, e1⟩ := cover_get (t := 101) (n := 8) (l := cov1 m0 c0) (cov1_ok m0 c0 hm0 h0) (a := (xs0.getD 0 0)) (by decide) rfl
    obtain ⟨c2, h2, e2⟩ := cover_get (t := 102) (n := 8) (l := cov2 m0 c0 c1) (cov2_ok m0 c0 c1 hm0 h0 h1) (a := (xs0.getD 1 0)) (by decide) rfl
    obtain ⟨c3, h3, e3⟩ := cover_get (t := 103) (n := 8) (l := cov3 m0 c0 c1 c2) (cov3_ok m0 c0 c1 c2 hm0 h0 h1 h2) (a := (xs0.getD 2 0)) (by decide) rfl
    obtain ⟨c4, h4, e4⟩ := cover_get (t := 104) (n := 8) (l := cov4 m0 c0 c1 c2 c3) (cov4_ok m0 c0 c1 c2 c3 hm0 h0 h1 h2 h3) (a := (xs0.getD 3 0)) (by decide) rfl
    unfold run at hc
    simp only [List.all_eq_true] at hc
    refine fin _ obs u1 (hc c0 h0 c1 h1 c2 h2 c3 h3 c4 h4) ?_ hob r1
    intro q hq
    simp only [List.mem_cons, List.not_mem_nil, or_false] at hq
    rcases hq with rfl | rfl | rfl | rfl | rfl
    · exact ⟨b0, (by show (1 : Int) ≤ 6; decide), (by show (6 : Int) ≤ 9223372036854775807; decide), e0⟩
    · exact ⟨(by show _ ≤ Toks.A 500000 ∧ Toks.A 500000 ≤ _; rw [hE1]; exact hd0 0), (by show (1 : Int) ≤ 8; decide), (by show (8 : Int) ≤ 9223372036854775807; decide), (by show ∀ ρ : Ren, VR ρ _ (.int .i64 (Toks.A 500000 % 8)); rw [hE1]; exact e1)⟩
    · exact ⟨(by show _ ≤ Toks.A 500001 ∧ Toks.A 500001 ≤ _; rw [hE2]; exact hd0 1), (by show (1 : Int) ≤ 8; decide), (by show (8 : Int) ≤ 9223372036854775807; decide), (by show ∀ ρ : Ren, VR ρ _ (.int .i64 (Toks.A 500001 % 8)); rw [hE2]; exact e2)⟩
    · exact ⟨(by show _ ≤ Toks.A 500002 ∧ Toks.A 500002 ≤ _; rw [hE3]; exact hd0 2), (by show (1 : Int) ≤ 8; decide), (by show (8 : Int) ≤ 9223372036854775807; decide), (by show ∀ ρ : Ren, VR ρ _ (.int .i64 (Toks.A 500002 % 8)); rw [hE3]; exact e3)⟩
    · exact ⟨(by show _ ≤ Toks.A 500003 ∧ Toks.A 500003 ≤ _; rw [hE4]; exact hd0 3), (by show (1 : Int) ≤ 8; decide), (by show (8 : Int) ≤ 9223372036854775807; decide), (by show ∀ ρ : Ren, VR ρ _ (.int .i64 (Toks.A 500003 % 8)); rw [hE4]; exact e4)⟩
  rcases hx0 with rfl | ⟨b0_, off0, n0, c0_, cs0, el0, fz0, rfl, hn0, hw0, hl0, hx0⟩
  · skip
    have hc : run 0 (.slice none 0 0) (heapOf []) = true := by
      exact all0
    refine fin2 [] _ 0 _ hc rfl (by omega) ?_ (VR.flat rfl)
    intro q hq
    cases hq
  · obtain ⟨K0, hK0⟩ := Nat.exists_eq_add_of_le hn0
    rw [Nat.add_comm] at hK0
    subst hK0
    by_cases hz0 : n0 = 0
    · subst hz0
      cases K0 with
      | zero =>
        have hc : run 0 (.slice (some ⟨0, 0, none⟩) 0 (0 + 0)) (heapOf [⟨intToks 0 0 0 ++ (xs0.drop 0).map (.int .i64), el0, 2, 1⟩]) = true := by
          exact all1 ((xs0.drop 0).map (.int .i64)) el0
        refine fin2 [(⟨intToks 0 0 0 ++ (xs0.drop 0).map (.int .i64), el0, 2, 1⟩, ⟨b0_, 0, off0⟩)] _ 0 _ hc rfl (by omega) ?_ (bytes_rel (by omega) rfl)
        intro q hq
        simp only [List.mem_cons, List.not_mem_nil, or_false] at hq
        subst hq
        exact ⟨rfl, ints_held (by omega) (by omega) hw0 hx0 (fun k hk => hT0 k (by omega)) (by omega)⟩
      | succ K0 =>
        have hc : run 0 (.slice (some ⟨0, 0, none⟩) 0 ((K0 + 1) + 0)) (heapOf [⟨intToks 0 0 0 ++ (xs0.drop 0).map (.int .i64), el0, 2, 1⟩]) = true := by
          exact all2 ((xs0.drop 0).map (.int .i64)) el0 K0
        refine fin2 [(⟨intToks 0 0 0 ++ (xs0.drop 0).map (.int .i64), el0, 2, 1⟩, ⟨b0_, 0, off0⟩)] _ 0 _ hc rfl (by omega) ?_ (bytes_rel (by omega) rfl)
        intro q hq
        simp only [List.mem_cons, List.not_mem_nil, or_false] at hq
        subst hq
        exact ⟨rfl, ints_held (by omega) (by omega) hw0 hx0 (fun k hk => hT0 k (by omega)) (by omega)⟩
    by_cases hb0 : n0 < 5
    · obtain ⟨N0, hN0⟩ : ∃ N, N = n0 := ⟨_, rfl⟩
      subst hN0
      have hc : run N0 (.slice (some ⟨0, 0, none⟩) N0 (K0 + N0)) (heapOf [⟨intToks 0 N0 0 ++ (xs0.drop N0).map (.int .i64), el0, 2, 1⟩]) = true := by
        by_cases hr : N0 < 2
        · have h := all3 ((xs0.drop N0).map (.int .i64)) el0 K0
          simp only [List.all_eq_true, List.mem_range'_1] at h
          exact h N0 (by omega)
        by_cases hr : N0 < 3
        · have h := all4 ((xs0.drop N0).map (.int .i64)) el0 K0
          simp only [List.all_eq_true, List.mem_range'_1] at h
          exact h N0 (by omega)
        by_cases hr : N0 < 4
        · have h := all5 ((xs0.drop N0).map (.int .i64)) el0 K0
          simp only [List.all_eq_true, List.mem_range'_1] at h
          exact h N0 (by omega)
        have h := all6 ((xs0.drop N0).map (.int .i64)) el0 K0
        simp only [List.all_eq_true, List.mem_range'_1] at h
        exact h N0 (by omega)
      refine fin2 [(⟨intToks 0 N0 0 ++ (xs0.drop N0).map (.int .i64), el0, 2, 1⟩, ⟨b0_, 0, off0⟩)] _ N0 _ hc rfl (by omega) ?_ (bytes_rel (by omega) rfl)
      intro q hq
      simp only [List.mem_cons, List.not_mem_nil, or_false] at hq
      subst hq
      exact ⟨rfl, ints_held (by omega) (by omega) hw0 hx0 (fun k hk => hT0 k (by omega)) (by omega)⟩
    · obtain ⟨M0, hM0⟩ := Nat.exists_eq_add_of_le (Nat.le_of_not_lt hb0)
      rw [Nat.add_comm] at hM0
      subst hM0
      have hc : run 4 (.slice (some ⟨0, 0, none⟩) (M0 + 5) (K0 + (M0 + 5))) (heapOf [⟨intToks 0 4 0 ++ (xs0.drop 4).map (.int .i64), el0, 2, 1⟩]) = true := by
        exact all7 ((xs0.drop 4).map (.int .i64)) el0 K0 M0
      refine fin2 [(⟨intToks 0 4 0 ++ (xs0.drop 4).map (.int .i64), el0, 2, 1⟩, ⟨b0_, 0, off0⟩)] _ 4 _ hc rfl (by omega) ?_ (bytes_rel (by omega) rfl)
      intro q hq
      simp only [List.mem_cons, List.not_mem_nil, or_false] at hq
      subst hq
      exact ⟨rfl, ints_held (by omega) (by omega) hw0 hx0 (fun k hk => hT0 k (by omega)) (by omega)⟩
end Go.Proofs.Ytlljepgfecodoaa.answerAll
