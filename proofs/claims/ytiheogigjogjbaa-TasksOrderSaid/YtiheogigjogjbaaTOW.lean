/- The walk of TasksOrder: the plain terms find it true, case by case. -/
import Derived.Test.YtiheogigjogjbaaTOWM
namespace Go.Proofs.Ytiheogigjogjbaa.tasksOrder
open Go.ChangeShapes Go.WideShapes Go.ChangeAt Go.RowKit
set_option maxRecDepth 1000000
set_option linter.unusedVariables false
theorem cov0_ok (m0 : Nat) (hm0 : m0 < 7) : coverOk 3 (cov0 m0) = true := by
  have h : ((List.range 7).all fun m0 => coverOk 3 (cov0 m0)) = true := by kernel_rfl
  simp only [List.all_eq_true, List.mem_range] at h
  exact h m0 hm0
theorem cov1_ok (m0 : Nat) (c0 : Nat × Nat) (hm0 : m0 < 7) (h0 : c0 ∈ cov0 m0) : coverOk 4 (cov1 m0 c0) = true := by
  have h : ((List.range 7).all fun m0 => (cov0 m0).all fun c0 => coverOk 4 (cov1 m0 c0)) = true := by kernel_rfl
  simp only [List.all_eq_true, List.mem_range] at h
  exact h m0 hm0 c0 h0
theorem cov2_ok (m0 : Nat) (c0 : Nat × Nat) (c1 : Nat × Nat) (hm0 : m0 < 7) (h0 : c0 ∈ cov0 m0) (h1 : c1 ∈ cov1 m0 c0) : coverOk 4 (cov2 m0 c0 c1) = true := by
  have h : ((List.range 7).all fun m0 => (cov0 m0).all fun c0 => (cov1 m0 c0).all fun c1 => coverOk 4 (cov2 m0 c0 c1)) = true := by kernel_rfl
  simp only [List.all_eq_true, List.mem_range] at h
  exact h m0 hm0 c0 h0 c1 h1
theorem cov3_ok (m0 : Nat) (c0 : Nat × Nat) (c1 : Nat × Nat) (c2 : Nat × Nat) (hm0 : m0 < 7) (h0 : c0 ∈ cov0 m0) (h1 : c1 ∈ cov1 m0 c0) (h2 : c2 ∈ cov2 m0 c0 c1) : coverOk 4 (cov3 m0 c0 c1 c2) = true := by
  have h : ((List.range 7).all fun m0 => (cov0 m0).all fun c0 => (cov1 m0 c0).all fun c1 => (cov2 m0 c0 c1).all fun c2 => coverOk 4 (cov3 m0 c0 c1 c2)) = true := by kernel_rfl
  simp only [List.all_eq_true, List.mem_range] at h
  exact h m0 hm0 c0 h0 c1 h1 c2 h2
theorem cov4_ok (m0 : Nat) (c0 : Nat × Nat) (c1 : Nat × Nat) (c2 : Nat × Nat) (c3 : Nat × Nat) (hm0 : m0 < 7) (h0 : c0 ∈ cov0 m0) (h1 : c1 ∈ cov1 m0 c0) (h2 : c2 ∈ cov2 m0 c0 c1) (h3 : c3 ∈ cov3 m0 c0 c1 c2) : coverOk 4 (cov4 m0 c0 c1 c2 c3) = true := by
  have h : ((List.range 7).all fun m0 => (cov0 m0).all fun c0 => (cov1 m0 c0).all fun c1 => (cov2 m0 c0 c1).all fun c2 => (cov3 m0 c0 c1 c2).all fun c3 => coverOk 4 (cov4 m0 c0 c1 c2 c3)) = true := by kernel_rfl
  simp only [List.all_eq_true, List.mem_range] at h
  exact h m0 hm0 c0 h0 c1 h1 c2 h2 c3 h3
theorem cov5_ok (m0 : Nat) (c0 : Nat × Nat) (c1 : Nat × Nat) (c2 : Nat × Nat) (c3 : Nat × Nat) (c4 : Nat × Nat) (hm0 : m0 < 7) (h0 : c0 ∈ cov0 m0) (h1 : c1 ∈ cov1 m0 c0) (h2 : c2 ∈ cov2 m0 c0 c1) (h3 : c3 ∈ cov3 m0 c0 c1 c2) (h4 : c4 ∈ cov4 m0 c0 c1 c2 c3) : coverOk 4 (cov5 m0 c0 c1 c2 c3 c4) = true := by
  have h : ((List.range 7).all fun m0 => (cov0 m0).all fun c0 => (cov1 m0 c0).all fun c1 => (cov2 m0 c0 c1).all fun c2 => (cov3 m0 c0 c1 c2).all fun c3 => (cov4 m0 c0 c1 c2 c3).all fun c4 => coverOk 4 (cov5 m0 c0 c1 c2 c3 c4)) = true := by kernel_rfl
  simp only [List.all_eq_true, List.mem_range] at h
  exact h m0 hm0 c0 h0 c1 h1 c2 h2 c3 h3 c4 h4
theorem cov6_ok (m0 : Nat) (c0 : Nat × Nat) (c1 : Nat × Nat) (c2 : Nat × Nat) (c3 : Nat × Nat) (c4 : Nat × Nat) (c5 : Nat × Nat) (hm0 : m0 < 7) (h0 : c0 ∈ cov0 m0) (h1 : c1 ∈ cov1 m0 c0) (h2 : c2 ∈ cov2 m0 c0 c1) (h3 : c3 ∈ cov3 m0 c0 c1 c2) (h4 : c4 ∈ cov4 m0 c0 c1 c2 c3) (h5 : c5 ∈ cov5 m0 c0 c1 c2 c3 c4) : coverOk 4 (cov6 m0 c0 c1 c2 c3 c4 c5) = true := by
  have h : ((List.range 7).all fun m0 => (cov0 m0).all fun c0 => (cov1 m0 c0).all fun c1 => (cov2 m0 c0 c1).all fun c2 => (cov3 m0 c0 c1 c2).all fun c3 => (cov4 m0 c0 c1 c2 c3).all fun c4 => (cov5 m0 c0 c1 c2 c3 c4).all fun c5 => coverOk 4 (cov6 m0 c0 c1 c2 c3 c4 c5)) = true := by kernel_rfl
  simp only [List.all_eq_true, List.mem_range] at h
  exact h m0 hm0 c0 h0 c1 h1 c2 h2 c3 h3 c4 h4 c5 h5
set_option maxHeartbeats 8000000 in
theorem walk (v0 : Value) (a1 : Int) (w : World) (b0 : IntsArg w v0) (b1 : -9223372036854775808 ≤ a1 ∧ a1 ≤ 9223372036854775807) :
    Calls Try.prog 3 #[v0, .int .i64 a1] w fun e w' => e = .returned (.bool true) ∧ Below w.heap.size w w' := by
  obtain ⟨xs0, hd0, hx0⟩ := ints_xs b0
  letI : Toks := ⟨fun k => if k = 1 then a1 else if k = 100 then a1 % 3 else if k = 101 then (xs0.getD 0 0) % 4 else if k = 102 then (xs0.getD 1 0) % 4 else if k = 103 then (xs0.getD 2 0) % 4 else if k = 104 then (xs0.getD 3 0) % 4 else if k = 105 then (xs0.getD 4 0) % 4 else if k = 106 then (xs0.getD 5 0) % 4 else if 500000 ≤ k then xs0.getD (k - 500000) 0 else 0⟩
  have hT0 : ∀ k, k < 6 → Toks.B (500000 + 10000 * 0 + k) = xs0.getD k 0 := by
    intro k hk
    show (if 500000 + 10000 * 0 + k = 1 then a1 else if 500000 + 10000 * 0 + k = 100 then a1 % 3 else if 500000 + 10000 * 0 + k = 101 then (xs0.getD 0 0) % 4 else if 500000 + 10000 * 0 + k = 102 then (xs0.getD 1 0) % 4 else if 500000 + 10000 * 0 + k = 103 then (xs0.getD 2 0) % 4 else if 500000 + 10000 * 0 + k = 104 then (xs0.getD 3 0) % 4 else if 500000 + 10000 * 0 + k = 105 then (xs0.getD 4 0) % 4 else if 500000 + 10000 * 0 + k = 106 then (xs0.getD 5 0) % 4 else if 500000 ≤ 500000 + 10000 * 0 + k then xs0.getD (500000 + 10000 * 0 + k - 500000) 0 else 0 : Int) = _
    rw [if_neg (by omega)]
    rw [if_neg (by omega)]
    rw [if_neg (by omega)]
    rw [if_neg (by omega)]
    rw [if_neg (by omega)]
    rw [if_neg (by omega)]
    rw [if_neg (by omega)]
    rw [if_neg (by omega)]
    rw [if_pos (by omega), show 500000 + 10000 * 0 + k - 500000 = k by omega]
  have hE1 : Toks.A 500000 = xs0.getD 0 0 := (Toks.A_low (by decide)).trans (hT0 0 (by decide))
  have hE2 : Toks.A 500001 = xs0.getD 1 0 := (Toks.A_low (by decide)).trans (hT0 1 (by decide))
  have hE3 : Toks.A 500002 = xs0.getD 2 0 := (Toks.A_low (by decide)).trans (hT0 2 (by decide))
  have hE4 : Toks.A 500003 = xs0.getD 3 0 := (Toks.A_low (by decide)).trans (hT0 3 (by decide))
  have hE5 : Toks.A 500004 = xs0.getD 4 0 := (Toks.A_low (by decide)).trans (hT0 4 (by decide))
  have hE6 : Toks.A 500005 = xs0.getD 5 0 := (Toks.A_low (by decide)).trans (hT0 5 (by decide))
  have fin : ∀ (l : List (Nat × Nat × Nat × Nat × Nat)) (obs : List (AObj × Loc)) (u0 : Value), at_ l u0 (heapOf (obs.map (·.1))) = true → (∀ q ∈ l, (-9223372036854775808 ≤ Toks.A q.1 ∧ Toks.A q.1 ≤ 9223372036854775807) ∧ 1 ≤ (q.2.1 : Int) ∧ (q.2.1 : Int) ≤ 9223372036854775807 ∧ ∀ ρ : Ren, VR ρ (caseV q.2.2.1 (q.2.2.2.1, q.2.2.2.2)) (.int .i64 (Toks.A q.1 % (q.2.1 : Int)))) → ArgsHeld obs w → VR (fun i => (obs[i]?).map (·.2)) u0 v0 →
      Calls Try.prog 3 #[v0, .int .i64 a1] w fun e w' => e = .returned (.bool true) ∧ Below w.heap.size w w' := by
    intro l obs u0 hc hok hob r0
    refine top_args (okF := cfg l) tabAll_ok ⟨overW_ok (tabOf l) (fun q hq => ?_) fun q hq => ?_, summAll_ok, summAll_mono⟩ mixed 3000 60 w hob ?_ hc
    · obtain ⟨x, hx, rfl⟩ := List.mem_map.1 hq
      exact (hok x hx).1
    · obtain ⟨x, hx, rfl⟩ := List.mem_map.1 hq
      exact (hok x hx).2
    · exact .cons (r0) (.cons (rfl) .nil)
  have fin2 : ∀ (obs : List (AObj × Loc)) (hp : AHeap) (m0 : Nat) (u0 : Value), run m0 u0 hp = true → heapOf (obs.map (·.1)) = hp → m0 < 7 → ArgsHeld obs w → VR (fun i => (obs[i]?).map (·.2)) u0 v0 →
      Calls Try.prog 3 #[v0, .int .i64 a1] w fun e w' => e = .returned (.bool true) ∧ Below w.heap.size w w' := by
    intro obs hp m0 u0 hc hhp hm0 hob r0
    subst hhp
    obtain ⟨c0, h0, e0⟩ := cover_get (t := 100) (n := 3) (l := cov0 m0) (cov0_ok m0 hm0) (a := a1) (by decide) rfl
    obtain ⟨c1, h1, e1⟩ := cover_get (t := 101) (n := 4) (l := cov1 m0 c0) (cov1_ok m0 c0 hm0 h0) (a := (xs0.getD 0 0)) (by decide) rfl
    obtain ⟨c2, h2, e2⟩ := cover_get (t := 102) (n := 4) (l := cov2 m0 c0 c1) (cov2_ok m0 c0 c1 hm0 h0 h1) (a := (xs0.getD 1 0)) (by decide) rfl
    obtain ⟨c3, h3, e3⟩ := cover_get (t := 103) (n := 4) (l := cov3 m0 c0 c1 c2) (cov3_ok m0 c0 c1 c2 hm0 h0 h1 h2) (a := (xs0.getD 2 0)) (by decide) rfl
    obtain ⟨c4, h4, e4⟩ := cover_get (t := 104) (n := 4) (l := cov4 m0 c0 c1 c2 c3) (cov4_ok m0 c0 c1 c2 c3 hm0 h0 h1 h2 h3) (a := (xs0.getD 3 0)) (by decide) rfl
    obtain ⟨c5, h5, e5⟩ := cover_get (t := 105) (n := 4) (l := cov5 m0 c0 c1 c2 c3 c4) (cov5_ok m0 c0 c1 c2 c3 c4 hm0 h0 h1 h2 h3 h4) (a := (xs0.getD 4 0)) (by decide) rfl
    obtain ⟨c6, h6, e6⟩ := cover_get (t := 106) (n := 4) (l := cov6 m0 c0 c1 c2 c3 c4 c5) (cov6_ok m0 c0 c1 c2 c3 c4 c5 hm0 h0 h1 h2 h3 h4 h5) (a := (xs0.getD 5 0)) (by decide) rfl
    unfold run at hc
    simp only [List.all_eq_true] at hc
    refine fin _ obs u0 (hc c0 h0 c1 h1 c2 h2 c3 h3 c4 h4 c5 h5 c6 h6) ?_ hob r0
    intro q hq
    simp only [List.mem_cons, List.not_mem_nil, or_false] at hq
    rcases hq with rfl | rfl | rfl | rfl | rfl | rfl | rfl
    · exact ⟨b1, (by show (1 : Int) ≤ 3; decide), (by show (3 : Int) ≤ 9223372036854775807; decide), e0⟩
    · exact ⟨(by show _ ≤ Toks.A 500000 ∧ Toks.A 500000 ≤ _; rw [hE1]; exact hd0 0), (by show (1 : Int) ≤ 4; decide), (by show (4 : Int) ≤ 9223372036854775807; decide), (by show ∀ ρ : Ren, VR ρ _ (.int .i64 (Toks.A 500000 % 4)); rw [hE1]; exact e1)⟩
    · exact ⟨(by show _ ≤ Toks.A 500001 ∧ Toks.A 500001 ≤ _; rw [hE2]; exact hd0 1), (by show (1 : Int) ≤ 4; decide), (by show (4 : Int) ≤ 9223372036854775807; decide), (by show ∀ ρ : Ren, VR ρ _ (.int .i64 (Toks.A 500001 % 4)); rw [hE2]; exact e2)⟩
    · exact ⟨(by show _ ≤ Toks.A 500002 ∧ Toks.A 500002 ≤ _; rw [hE3]; exact hd0 2), (by show (1 : Int) ≤ 4; decide), (by show (4 : Int) ≤ 9223372036854775807; decide), (by show ∀ ρ : Ren, VR ρ _ (.int .i64 (Toks.A 500002 % 4)); rw [hE3]; exact e3)⟩
    · exact ⟨(by show _ ≤ Toks.A 500003 ∧ Toks.A 500003 ≤ _; rw [hE4]; exact hd0 3), (by show (1 : Int) ≤ 4; decide), (by show (4 : Int) ≤ 9223372036854775807; decide), (by show ∀ ρ : Ren, VR ρ _ (.int .i64 (Toks.A 500003 % 4)); rw [hE4]; exact e4)⟩
    · exact ⟨(by show _ ≤ Toks.A 500004 ∧ Toks.A 500004 ≤ _; rw [hE5]; exact hd0 4), (by show (1 : Int) ≤ 4; decide), (by show (4 : Int) ≤ 9223372036854775807; decide), (by show ∀ ρ : Ren, VR ρ _ (.int .i64 (Toks.A 500004 % 4)); rw [hE5]; exact e5)⟩
    · exact ⟨(by show _ ≤ Toks.A 500005 ∧ Toks.A 500005 ≤ _; rw [hE6]; exact hd0 5), (by show (1 : Int) ≤ 4; decide), (by show (4 : Int) ≤ 9223372036854775807; decide), (by show ∀ ρ : Ren, VR ρ _ (.int .i64 (Toks.A 500005 % 4)); rw [hE6]; exact e6)⟩
  rcases hx0 with rfl | ⟨b0_, off0, n0, c0_, cs0, el0, fz0, rfl, hn0, hw0, hl0, hx0⟩
  · skip
    have hc : run 0 (.slice none 0 0) (heapOf []) = true := by
      exact all0
    refine fin2 [] _ 0 _ hc rfl (by omega) ?_ (VR.flat rfl)
    intro q hq
    cases hq
  · obtain ⟨K0, hK0⟩ := Nat.exists_eq_add_of_le hn0
    rw [Nat.add_comm] at hK0
    subst hK0
    by_cases hz0 : n0 = 0
    · subst hz0
      cases K0 with
      | zero =>
        have hc : run 0 (.slice (some ⟨0, 0, none⟩) 0 (0 + 0)) (heapOf [⟨intToks 0 0 0 ++ (xs0.drop 0).map (.int .i64), el0, 2, 1⟩]) = true := by
          exact all1 ((xs0.drop 0).map (.int .i64)) el0
        refine fin2 [(⟨intToks 0 0 0 ++ (xs0.drop 0).map (.int .i64), el0, 2, 1⟩, ⟨b0_, 0, off0⟩)] _ 0 _ hc rfl (by omega) ?_ (bytes_rel (by omega) rfl)
        intro q hq
        simp only [List.mem_cons, List.not_mem_nil, or_false] at hq
        subst hq
        exact ⟨rfl, ints_held (by omega) (by omega) hw0 hx0 (fun k hk => hT0 k (by omega)) (by omega)⟩
      | succ K0 =>
        have hc : run 0 (.slice (some ⟨0, 0, none⟩) 0 ((K0 + 1) + 0)) (heapOf [⟨intToks 0 0 0 ++ (xs0.drop 0).map (.int .i64), el0, 2, 1⟩]) = true := by
          exact all2 ((xs0.drop 0).map (.int .i64)) el0 K0
        refine fin2 [(⟨intToks 0 0 0 ++ (xs0.drop 0).map (.int .i64), el0, 2, 1⟩, ⟨b0_, 0, off0⟩)] _ 0 _ hc rfl (by omega) ?_ (bytes_rel (by omega) rfl)
        intro q hq
        simp only [List.mem_cons, List.not_mem_nil, or_false] at hq
        subst hq
        exact ⟨rfl, ints_held (by omega) (by omega) hw0 hx0 (fun k hk => hT0 k (by omega)) (by omega)⟩
    by_cases hb0 : n0 < 7
    · obtain ⟨N0, hN0⟩ : ∃ N, N = n0 := ⟨_, rfl⟩
      subst hN0
      have hc : run N0 (.slice (some ⟨0, 0, none⟩) N0 (K0 + N0)) (heapOf [⟨intToks 0 N0 0 ++ (xs0.drop N0).map (.int .i64), el0, 2, 1⟩]) = true := by
        by_cases hr : N0 < 2
        · have h := all3 ((xs0.drop N0).map (.int .i64)) el0 K0
          simp only [List.all_eq_true, List.mem_range'_1] at h
          exact h N0 (by omega)
        by_cases hr : N0 < 3
        · have h := all4 ((xs0.drop N0).map (.int .i64)) el0 K0
          simp only [List.all_eq_true, List.mem_range'_1] at h
          exact h N0 (by omega)
        by_cases hr : N0 < 4
        · have h := all5 ((xs0.drop N0).map (.int .i64)) el0 K0
          simp only [List.all_eq_true, List.mem_range'_1] at h
          exact h N0 (by omega)
        by_cases hr : N0 < 5
        · have h := all6 ((xs0.drop N0).map (.int .i64)) el0 K0
          simp only [List.all_eq_true, List.mem_range'_1] at h
          exact h N0 (by omega)
        by_cases hr : N0 < 6
        · have h := all7 ((xs0.drop N0).map (.int .i64)) el0 K0
          simp only [List.all_eq_true, List.mem_range'_1] at h
          exact h N0 (by omega)
        have h := all8 ((xs0.drop N0).map (.int .i64)) el0 K0
        simp only [List.all_eq_true, List.mem_range'_1] at h
        exact h N0 (by omega)
      refine fin2 [(⟨intToks 0 N0 0 ++ (xs0.drop N0).map (.int .i64), el0, 2, 1⟩, ⟨b0_, 0, off0⟩)] _ N0 _ hc rfl (by omega) ?_ (bytes_rel (by omega) rfl)
      intro q hq
      simp only [List.mem_cons, List.not_mem_nil, or_false] at hq
      subst hq
      exact ⟨rfl, ints_held (by omega) (by omega) hw0 hx0 (fun k hk => hT0 k (by omega)) (by omega)⟩
    · obtain ⟨M0, hM0⟩ := Nat.exists_eq_add_of_le (Nat.le_of_not_lt hb0)
      rw [Nat.add_comm] at hM0
      subst hM0
      have hc : run 6 (.slice (some ⟨0, 0, none⟩) (M0 + 7) (K0 + (M0 + 7))) (heapOf [⟨intToks 0 6 0 ++ (xs0.drop 6).map (.int .i64), el0, 2, 1⟩]) = true := by
        exact all9 ((xs0.drop 6).map (.int .i64)) el0 K0 M0
      refine fin2 [(⟨intToks 0 6 0 ++ (xs0.drop 6).map (.int .i64), el0, 2, 1⟩, ⟨b0_, 0, off0⟩)] _ 6 _ hc rfl (by omega) ?_ (bytes_rel (by omega) rfl)
      intro q hq
      simp only [List.mem_cons, List.not_mem_nil, or_false] at hq
      subst hq
      exact ⟨rfl, ints_held (by omega) (by omega) hw0 hx0 (fun k hk => hT0 k (by omega)) (by omega)⟩
end Go.Proofs.Ytiheogigjogjbaa.tasksOrder
