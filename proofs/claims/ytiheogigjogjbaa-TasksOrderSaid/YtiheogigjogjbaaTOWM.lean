/- All cases of TasksOrder, out of their parts. -/
import Derived.Test.YtiheogigjogjbaaTOP0
import Derived.Test.YtiheogigjogjbaaTOP1
import Derived.Test.YtiheogigjogjbaaTOP2
import Derived.Test.YtiheogigjogjbaaTOP3
import Derived.Test.YtiheogigjogjbaaTOP4
import Derived.Test.YtiheogigjogjbaaTOP5
import Derived.Test.YtiheogigjogjbaaTOP6
import Derived.Test.YtiheogigjogjbaaTOP7
import Derived.Test.YtiheogigjogjbaaTOP8
import Derived.Test.YtiheogigjogjbaaTOP9
import Derived.Test.YtiheogigjogjbaaTOP10
import Derived.Test.YtiheogigjogjbaaTOP11
namespace Go.Proofs.Ytiheogigjogjbaa.tasksOrder
set_option maxRecDepth 1000000
set_option linter.unusedVariables false
theorem all0 : run 0 (.slice none 0 0) (heapOf []) = true := by
  refine List.all_eq_true.2 fun c0 h0 => List.all_eq_true.2 fun c1 h1 => List.all_eq_true.2 fun c2 h2 => List.all_eq_true.2 fun c3 h3 => ?_
  have g0 : c0 ∈ [(0, 0), (1, 1), (2, 2)] := h0
  simp only [List.mem_cons, List.not_mem_nil, or_false] at g0
  rcases g0 with rfl | rfl | rfl
  · skip
    have g1 : c1 ∈ [(0, 3)] := h1
    simp only [List.mem_cons, List.not_mem_nil, or_false] at g1
    subst g1
    have g2 : c2 ∈ [(0, 3)] := h2
    simp only [List.mem_cons, List.not_mem_nil, or_false] at g2
    subst g2
    have g3 : c3 ∈ [(0, 3)] := h3
    simp only [List.mem_cons, List.not_mem_nil, or_false] at g3
    subst g3
    exact p0
  · skip
    have g1 : c1 ∈ [(0, 3)] := h1
    simp only [List.mem_cons, List.not_mem_nil, or_false] at g1
    subst g1
    have g2 : c2 ∈ [(0, 3)] := h2
    simp only [List.mem_cons, List.not_mem_nil, or_false] at g2
    subst g2
    have g3 : c3 ∈ [(0, 3)] := h3
    simp only [List.mem_cons, List.not_mem_nil, or_false] at g3
    subst g3
    exact p1
  · skip
    have g1 : c1 ∈ [(0, 3)] := h1
    simp only [List.mem_cons, List.not_mem_nil, or_false] at g1
    subst g1
    have g2 : c2 ∈ [(0, 3)] := h2
    simp only [List.mem_cons, List.not_mem_nil, or_false] at g2
    subst g2
    have g3 : c3 ∈ [(0, 3)] := h3
    simp only [List.mem_cons, List.not_mem_nil, or_false] at g3
    subst g3
    exact p2
theorem all1 (tl0 : List Value) (el0 : Nat) : run 0 (.slice (some ⟨0, 0, none⟩) 0 (0 + 0)) (heapOf [⟨intToks 0 0 0 ++ tl0, el0, 2, 1⟩]) = true := by
  refine List.all_eq_true.2 fun c0 h0 => List.all_eq_true.2 fun c1 h1 => List.all_eq_true.2 fun c2 h2 => List.all_eq_true.2 fun c3 h3 => ?_
  have g0 : c0 ∈ [(0, 0), (1, 1), (2, 2)] := h0
  simp only [List.mem_cons, List.not_mem_nil, or_false] at g0
  rcases g0 with rfl | rfl | rfl
  · skip
    have g1 : c1 ∈ [(0, 3)] := h1
    simp only [List.mem_cons, List.not_mem_nil, or_false] at g1
    subst g1
    have g2 : c2 ∈ [(0, 3)] := h2
    simp only [List.mem_cons, List.not_mem_nil, or_false] at g2
    subst g2
    have g3 : c3 ∈ [(0, 3)] := h3
    simp only [List.mem_cons, List.not_mem_nil, or_false] at g3
    subst g3
    exact p3 tl0 el0
  · skip
    have g1 : c1 ∈ [(0, 3)] := h1
    simp only [List.mem_cons, List.not_mem_nil, or_false] at g1
    subst g1
    have g2 : c2 ∈ [(0, 3)] := h2
    simp only [List.mem_cons, List.not_mem_nil, or_false] at g2
    subst g2
    have g3 : c3 ∈ [(0, 3)] := h3
    simp only [List.mem_cons, List.not_mem_nil, or_false] at g3
    subst g3
    exact p4 tl0 el0
  · skip
    have g1 : c1 ∈ [(0, 3)] := h1
    simp only [List.mem_cons, List.not_mem_nil, or_false] at g1
    subst g1
    have g2 : c2 ∈ [(0, 3)] := h2
    simp only [List.mem_cons, List.not_mem_nil, or_false] at g2
    subst g2
    have g3 : c3 ∈ [(0, 3)] := h3
    simp only [List.mem_cons, List.not_mem_nil, or_false] at g3
    subst g3
    exact p5 tl0 el0
theorem all2 (tl0 : List Value) (el0 K0 : Nat) : run 0 (.slice (some ⟨0, 0, none⟩) 0 ((K0 + 1) + 0)) (heapOf [⟨intToks 0 0 0 ++ tl0, el0, 2, 1⟩]) = true := by
  refine List.all_eq_true.2 fun c0 h0 => List.all_eq_true.2 fun c1 h1 => List.all_eq_true.2 fun c2 h2 => List.all_eq_true.2 fun c3 h3 => ?_
  have g0 : c0 ∈ [(0, 0), (1, 1), (2, 2)] := h0
  simp only [List.mem_cons, List.not_mem_nil, or_false] at g0
  rcases g0 with rfl | rfl | rfl
  · skip
    have g1 : c1 ∈ [(0, 3)] := h1
    simp only [List.mem_cons, List.not_mem_nil, or_false] at g1
    subst g1
    have g2 : c2 ∈ [(0, 3)] := h2
    simp only [List.mem_cons, List.not_mem_nil, or_false] at g2
    subst g2
    have g3 : c3 ∈ [(0, 3)] := h3
    simp only [List.mem_cons, List.not_mem_nil, or_false] at g3
    subst g3
    exact p6 tl0 el0 K0
  · skip
    have g1 : c1 ∈ [(0, 3)] := h1
    simp only [List.mem_cons, List.not_mem_nil, or_false] at g1
    subst g1
    have g2 : c2 ∈ [(0, 3)] := h2
    simp only [List.mem_cons, List.not_mem_nil, or_false] at g2
    subst g2
    have g3 : c3 ∈ [(0, 3)] := h3
    simp only [List.mem_cons, List.not_mem_nil, or_false] at g3
    subst g3
    exact p7 tl0 el0 K0
  · skip
    have g1 : c1 ∈ [(0, 3)] := h1
    simp only [List.mem_cons, List.not_mem_nil, or_false] at g1
    subst g1
    have g2 : c2 ∈ [(0, 3)] := h2
    simp only [List.mem_cons, List.not_mem_nil, or_false] at g2
    subst g2
    have g3 : c3 ∈ [(0, 3)] := h3
    simp only [List.mem_cons, List.not_mem_nil, or_false] at g3
    subst g3
    exact p8 tl0 el0 K0
theorem lit1 (tl0 : List Value) (el0 K0 : Nat) : run 1 (.slice (some ⟨0, 0, none⟩) 1 (K0 + 1)) (heapOf [⟨intToks 0 1 0 ++ tl0, el0, 2, 1⟩]) = true := by
  refine List.all_eq_true.2 fun c0 h0 => List.all_eq_true.2 fun c1 h1 => List.all_eq_true.2 fun c2 h2 => List.all_eq_true.2 fun c3 h3 => ?_
  have g0 : c0 ∈ [(0, 0), (1, 1), (2, 2)] := h0
  simp only [List.mem_cons, List.not_mem_nil, or_false] at g0
  rcases g0 with rfl | rfl | rfl
  · skip
    have g1 : c1 ∈ [(0, 0), (1, 3)] := h1
    simp only [List.mem_cons, List.not_mem_nil, or_false] at g1
    rcases g1 with rfl | rfl
    · skip
      have g2 : c2 ∈ [(0, 3)] := h2
      simp only [List.mem_cons, List.not_mem_nil, or_false] at g2
      subst g2
      have g3 : c3 ∈ [(0, 3)] := h3
      simp only [List.mem_cons, List.not_mem_nil, or_false] at g3
      subst g3
      exact p9 tl0 el0 K0
    · skip
      have g2 : c2 ∈ [(0, 3)] := h2
      simp only [List.mem_cons, List.not_mem_nil, or_false] at g2
      subst g2
      have g3 : c3 ∈ [(0, 3)] := h3
      simp only [List.mem_cons, List.not_mem_nil, or_false] at g3
      subst g3
      exact p10 tl0 el0 K0
  · skip
    have g1 : c1 ∈ [(0, 0), (1, 3)] := h1
    simp only [List.mem_cons, List.not_mem_nil, or_false] at g1
    rcases g1 with rfl | rfl
    · skip
      have g2 : c2 ∈ [(0, 3)] := h2
      simp only [List.mem_cons, List.not_mem_nil, or_false] at g2
      subst g2
      have g3 : c3 ∈ [(0, 3)] := h3
      simp only [List.mem_cons, List.not_mem_nil, or_false] at g3
      subst g3
      exact p11 tl0 el0 K0
    · skip
      have g2 : c2 ∈ [(0, 3)] := h2
      simp only [List.mem_cons, List.not_mem_nil, or_false] at g2
      subst g2
      have g3 : c3 ∈ [(0, 3)] := h3
      simp only [List.mem_cons, List.not_mem_nil, or_false] at g3
      subst g3
      exact p12 tl0 el0 K0
  · skip
    have g1 : c1 ∈ [(0, 0), (1, 3)] := h1
    simp only [List.mem_cons, List.not_mem_nil, or_false] at g1
    rcases g1 with rfl | rfl
    · skip
      have g2 : c2 ∈ [(0, 3)] := h2
      simp only [List.mem_cons, List.not_mem_nil, or_false] at g2
      subst g2
      have g3 : c3 ∈ [(0, 3)] := h3
      simp only [List.mem_cons, List.not_mem_nil, or_false] at g3
      subst g3
      exact p13 tl0 el0 K0
    · skip
      have g2 : c2 ∈ [(0, 3)] := h2
      simp only [List.mem_cons, List.not_mem_nil, or_false] at g2
      subst g2
      have g3 : c3 ∈ [(0, 3)] := h3
      simp only [List.mem_cons, List.not_mem_nil, or_false] at g3
      subst g3
      exact p14 tl0 el0 K0
theorem all3 (tl0 : List Value) (el0 K0 : Nat) : ((List.range' 1 1).all fun N0 => run N0 (.slice (some ⟨0, 0, none⟩) N0 (K0 + N0)) (heapOf [⟨intToks 0 N0 0 ++ tl0, el0, 2, 1⟩])) = true := by
  refine List.all_eq_true.2 fun N0 hN => ?_
  simp only [List.mem_range'_1] at hN
  obtain rfl : N0 = 1 := by omega
  exact lit1 tl0 el0 K0
theorem lit2 (tl0 : List Value) (el0 K0 : Nat) : run 2 (.slice (some ⟨0, 0, none⟩) 2 (K0 + 2)) (heapOf [⟨intToks 0 2 0 ++ tl0, el0, 2, 1⟩]) = true := by
  refine List.all_eq_true.2 fun c0 h0 => List.all_eq_true.2 fun c1 h1 => List.all_eq_true.2 fun c2 h2 => List.all_eq_true.2 fun c3 h3 => ?_
  have g0 : c0 ∈ [(0, 0), (1, 1), (2, 2)] := h0
  simp only [List.mem_cons, List.not_mem_nil, or_false] at g0
  rcases g0 with rfl | rfl | rfl
  · skip
    have g1 : c1 ∈ [(0, 0), (1, 3)] := h1
    simp only [List.mem_cons, List.not_mem_nil, or_false] at g1
    rcases g1 with rfl | rfl
    · skip
      have g2 : c2 ∈ [(0, 0), (1, 1), (2, 3)] := h2
      simp only [List.mem_cons, List.not_mem_nil, or_false] at g2
      rcases g2 with rfl | rfl | rfl
      · skip
        have g3 : c3 ∈ [(0, 3)] := h3
        simp only [List.mem_cons, List.not_mem_nil, or_false] at g3
        subst g3
        exact p15 tl0 el0 K0
      · skip
        have g3 : c3 ∈ [(0, 3)] := h3
        simp only [List.mem_cons, List.not_mem_nil, or_false] at g3
        subst g3
        exact p16 tl0 el0 K0
      · skip
        have g3 : c3 ∈ [(0, 3)] := h3
        simp only [List.mem_cons, List.not_mem_nil, or_false] at g3
        subst g3
        exact p17 tl0 el0 K0
    · skip
      have g2 : c2 ∈ [(0, 0), (1, 1), (2, 3)] := h2
      simp only [List.mem_cons, List.not_mem_nil, or_false] at g2
      rcases g2 with rfl | rfl | rfl
      · skip
        have g3 : c3 ∈ [(0, 3)] := h3
        simp only [List.mem_cons, List.not_mem_nil, or_false] at g3
        subst g3
        exact p18 tl0 el0 K0
      · skip
        have g3 : c3 ∈ [(0, 3)] := h3
        simp only [List.mem_cons, List.not_mem_nil, or_false] at g3
        subst g3
        exact p19 tl0 el0 K0
      · skip
        have g3 : c3 ∈ [(0, 3)] := h3
        simp only [List.mem_cons, List.not_mem_nil, or_false] at g3
        subst g3
        exact p20 tl0 el0 K0
  · skip
    have g1 : c1 ∈ [(0, 0), (1, 3)] := h1
    simp only [List.mem_cons, List.not_mem_nil, or_false] at g1
    rcases g1 with rfl | rfl
    · skip
      have g2 : c2 ∈ [(0, 0), (1, 1), (2, 2), (3, 3)] := h2
      simp only [List.mem_cons, List.not_mem_nil, or_false] at g2
      rcases g2 with rfl | rfl | rfl | rfl
      · skip
        have g3 : c3 ∈ [(0, 3)] := h3
        simp only [List.mem_cons, List.not_mem_nil, or_false] at g3
        subst g3
        exact p21 tl0 el0 K0
      · skip
        have g3 : c3 ∈ [(0, 3)] := h3
        simp only [List.mem_cons, List.not_mem_nil, or_false] at g3
        subst g3
        exact p22 tl0 el0 K0
      · skip
        have g3 : c3 ∈ [(0, 3)] := h3
        simp only [List.mem_cons, List.not_mem_nil, or_false] at g3
        subst g3
        exact p23 tl0 el0 K0
      · skip
        have g3 : c3 ∈ [(0, 3)] := h3
        simp only [List.mem_cons, List.not_mem_nil, or_false] at g3
        subst g3
        exact p24 tl0 el0 K0
    · skip
      have g2 : c2 ∈ [(0, 0), (1, 1), (2, 2), (3, 3)] := h2
      simp only [List.mem_cons, List.not_mem_nil, or_false] at g2
      rcases g2 with rfl | rfl | rfl | rfl
      · skip
        have g3 : c3 ∈ [(0, 3)] := h3
        simp only [List.mem_cons, List.not_mem_nil, or_false] at g3
        subst g3
        exact p25 tl0 el0 K0
      · skip
        have g3 : c3 ∈ [(0, 3)] := h3
        simp only [List.mem_cons, List.not_mem_nil, or_false] at g3
        subst g3
        exact p26 tl0 el0 K0
      · skip
        have g3 : c3 ∈ [(0, 3)] := h3
        simp only [List.mem_cons, List.not_mem_nil, or_false] at g3
        subst g3
        exact p27 tl0 el0 K0
      · skip
        have g3 : c3 ∈ [(0, 3)] := h3
        simp only [List.mem_cons, List.not_mem_nil, or_false] at g3
        subst g3
        exact p28 tl0 el0 K0
  · skip
    have g1 : c1 ∈ [(0, 0), (1, 3)] := h1
    simp only [List.mem_cons, List.not_mem_nil, or_false] at g1
    rcases g1 with rfl | rfl
    · skip
      have g2 : c2 ∈ [(0, 0), (1, 2), (3, 3)] := h2
      simp only [List.mem_cons, List.not_mem_nil, or_false] at g2
      rcases g2 with rfl | rfl | rfl
      · skip
        have g3 : c3 ∈ [(0, 3)] := h3
        simp only [List.mem_cons, List.not_mem_nil, or_false] at g3
        subst g3
        exact p29 tl0 el0 K0
      · skip
        have g3 : c3 ∈ [(0, 3)] := h3
        simp only [List.mem_cons, List.not_mem_nil, or_false] at g3
        subst g3
        exact p30 tl0 el0 K0
      · skip
        have g3 : c3 ∈ [(0, 3)] := h3
        simp only [List.mem_cons, List.not_mem_nil, or_false] at g3
        subst g3
        exact p31 tl0 el0 K0
    · skip
      have g2 : c2 ∈ [(0, 0), (1, 2), (3, 3)] := h2
      simp only [List.mem_cons, List.not_mem_nil, or_false] at g2
      rcases g2 with rfl | rfl | rfl
      · skip
        have g3 : c3 ∈ [(0, 3)] := h3
        simp only [List.mem_cons, List.not_mem_nil, or_false] at g3
        subst g3
        exact p32 tl0 el0 K0
      · skip
        have g3 : c3 ∈ [(0, 3)] := h3
        simp only [List.mem_cons, List.not_mem_nil, or_false] at g3
        subst g3
        exact p33 tl0 el0 K0
      · skip
        have g3 : c3 ∈ [(0, 3)] := h3
        simp only [List.mem_cons, List.not_mem_nil, or_false] at g3
        subst g3
        exact p34 tl0 el0 K0
theorem all4 (tl0 : List Value) (el0 K0 : Nat) : ((List.range' 2 1).all fun N0 => run N0 (.slice (some ⟨0, 0, none⟩) N0 (K0 + N0)) (heapOf [⟨intToks 0 N0 0 ++ tl0, el0, 2, 1⟩])) = true := by
  refine List.all_eq_true.2 fun N0 hN => ?_
  simp only [List.mem_range'_1] at hN
  obtain rfl : N0 = 2 := by omega
  exact lit2 tl0 el0 K0
theorem lit3 (tl0 : List Value) (el0 K0 : Nat) : run 3 (.slice (some ⟨0, 0, none⟩) 3 (K0 + 3)) (heapOf [⟨intToks 0 3 0 ++ tl0, el0, 2, 1⟩]) = true := by
  refine List.all_eq_true.2 fun c0 h0 => List.all_eq_true.2 fun c1 h1 => List.all_eq_true.2 fun c2 h2 => List.all_eq_true.2 fun c3 h3 => ?_
  have g0 : c0 ∈ [(0, 0), (1, 1), (2, 2)] := h0
  simp only [List.mem_cons, List.not_mem_nil, or_false] at g0
  rcases g0 with rfl | rfl | rfl
  · skip
    have g1 : c1 ∈ [(0, 0), (1, 3)] := h1
    simp only [List.mem_cons, List.not_mem_nil, or_false] at g1
    rcases g1 with rfl | rfl
    · skip
      have g2 : c2 ∈ [(0, 0), (1, 1), (2, 3)] := h2
      simp only [List.mem_cons, List.not_mem_nil, or_false] at g2
      rcases g2 with rfl | rfl | rfl
      · skip
        have g3 : c3 ∈ [(0, 0), (1, 3)] := h3
        simp only [List.mem_cons, List.not_mem_nil, or_false] at g3
        rcases g3 with rfl | rfl
        · skip
          exact p35 tl0 el0 K0
        · skip
          exact p36 tl0 el0 K0
      · skip
        have g3 : c3 ∈ [(0, 0), (1, 3)] := h3
        simp only [List.mem_cons, List.not_mem_nil, or_false] at g3
        rcases g3 with rfl | rfl
        · skip
          exact p37 tl0 el0 K0
        · skip
          exact p38 tl0 el0 K0
      · skip
        have g3 : c3 ∈ [(0, 0), (1, 3)] := h3
        simp only [List.mem_cons, List.not_mem_nil, or_false] at g3
        rcases g3 with rfl | rfl
        · skip
          exact p39 tl0 el0 K0
        · skip
          exact p40 tl0 el0 K0
    · skip
      have g2 : c2 ∈ [(0, 0), (1, 1), (2, 3)] := h2
      simp only [List.mem_cons, List.not_mem_nil, or_false] at g2
      rcases g2 with rfl | rfl | rfl
      · skip
        have g3 : c3 ∈ [(0, 0), (1, 3)] := h3
        simp only [List.mem_cons, List.not_mem_nil, or_false] at g3
        rcases g3 with rfl | rfl
        · skip
          exact p41 tl0 el0 K0
        · skip
          exact p42 tl0 el0 K0
      · skip
        have g3 : c3 ∈ [(0, 0), (1, 3)] := h3
        simp only [List.mem_cons, List.not_mem_nil, or_false] at g3
        rcases g3 with rfl | rfl
        · skip
          exact p43 tl0 el0 K0
        · skip
          exact p44 tl0 el0 K0
      · skip
        have g3 : c3 ∈ [(0, 0), (1, 3)] := h3
        simp only [List.mem_cons, List.not_mem_nil, or_false] at g3
        rcases g3 with rfl | rfl
        · skip
          exact p45 tl0 el0 K0
        · skip
          exact p46 tl0 el0 K0
  · skip
    have g1 : c1 ∈ [(0, 0), (1, 3)] := h1
    simp only [List.mem_cons, List.not_mem_nil, or_false] at g1
    rcases g1 with rfl | rfl
    · skip
      have g2 : c2 ∈ [(0, 0), (1, 1), (2, 2), (3, 3)] := h2
      simp only [List.mem_cons, List.not_mem_nil, or_false] at g2
      rcases g2 with rfl | rfl | rfl | rfl
      · skip
        have g3 : c3 ∈ [(0, 0), (1, 3)] := h3
        simp only [List.mem_cons, List.not_mem_nil, or_false] at g3
        rcases g3 with rfl | rfl
        · skip
          exact p47 tl0 el0 K0
        · skip
          exact p48 tl0 el0 K0
      · skip
        have g3 : c3 ∈ [(0, 0), (1, 3)] := h3
        simp only [List.mem_cons, List.not_mem_nil, or_false] at g3
        rcases g3 with rfl | rfl
        · skip
          exact p49 tl0 el0 K0
        · skip
          exact p50 tl0 el0 K0
      · skip
        have g3 : c3 ∈ [(0, 0), (1, 3)] := h3
        simp only [List.mem_cons, List.not_mem_nil, or_false] at g3
        rcases g3 with rfl | rfl
        · skip
          exact p51 tl0 el0 K0
        · skip
          exact p52 tl0 el0 K0
      · skip
        have g3 : c3 ∈ [(0, 0), (1, 3)] := h3
        simp only [List.mem_cons, List.not_mem_nil, or_false] at g3
        rcases g3 with rfl | rfl
        · skip
          exact p53 tl0 el0 K0
        · skip
          exact p54 tl0 el0 K0
    · skip
      have g2 : c2 ∈ [(0, 0), (1, 1), (2, 2), (3, 3)] := h2
      simp only [List.mem_cons, List.not_mem_nil, or_false] at g2
      rcases g2 with rfl | rfl | rfl | rfl
      · skip
        have g3 : c3 ∈ [(0, 0), (1, 3)] := h3
        simp only [List.mem_cons, List.not_mem_nil, or_false] at g3
        rcases g3 with rfl | rfl
        · skip
          exact p55 tl0 el0 K0
        · skip
          exact p56 tl0 el0 K0
      · skip
        have g3 : c3 ∈ [(0, 0), (1, 3)] := h3
        simp only [List.mem_cons, List.not_mem_nil, or_false] at g3
        rcases g3 with rfl | rfl
        · skip
          exact p57 tl0 el0 K0
        · skip
          exact p58 tl0 el0 K0
      · skip
        have g3 : c3 ∈ [(0, 0), (1, 3)] := h3
        simp only [List.mem_cons, List.not_mem_nil, or_false] at g3
        rcases g3 with rfl | rfl
        · skip
          exact p59 tl0 el0 K0
        · skip
          exact p60 tl0 el0 K0
      · skip
        have g3 : c3 ∈ [(0, 0), (1, 3)] := h3
        simp only [List.mem_cons, List.not_mem_nil, or_false] at g3
        rcases g3 with rfl | rfl
        · skip
          exact p61 tl0 el0 K0
        · skip
          exact p62 tl0 el0 K0
  · skip
    have g1 : c1 ∈ [(0, 0), (1, 3)] := h1
    simp only [List.mem_cons, List.not_mem_nil, or_false] at g1
    rcases g1 with rfl | rfl
    · skip
      have g2 : c2 ∈ [(0, 0), (1, 2), (3, 3)] := h2
      simp only [List.mem_cons, List.not_mem_nil, or_false] at g2
      rcases g2 with rfl | rfl | rfl
      · skip
        have g3 : c3 ∈ [(0, 0), (1, 3)] := h3
        simp only [List.mem_cons, List.not_mem_nil, or_false] at g3
        rcases g3 with rfl | rfl
        · skip
          exact p63 tl0 el0 K0
        · skip
          exact p64 tl0 el0 K0
      · skip
        have g3 : c3 ∈ [(0, 0), (1, 3)] := h3
        simp only [List.mem_cons, List.not_mem_nil, or_false] at g3
        rcases g3 with rfl | rfl
        · skip
          exact p65 tl0 el0 K0
        · skip
          exact p66 tl0 el0 K0
      · skip
        have g3 : c3 ∈ [(0, 0), (1, 3)] := h3
        simp only [List.mem_cons, List.not_mem_nil, or_false] at g3
        rcases g3 with rfl | rfl
        · skip
          exact p67 tl0 el0 K0
        · skip
          exact p68 tl0 el0 K0
    · skip
      have g2 : c2 ∈ [(0, 0), (1, 2), (3, 3)] := h2
      simp only [List.mem_cons, List.not_mem_nil, or_false] at g2
      rcases g2 with rfl | rfl | rfl
      · skip
        have g3 : c3 ∈ [(0, 0), (1, 3)] := h3
        simp only [List.mem_cons, List.not_mem_nil, or_false] at g3
        rcases g3 with rfl | rfl
        · skip
          exact p69 tl0 el0 K0
        · skip
          exact p70 tl0 el0 K0
      · skip
        have g3 : c3 ∈ [(0, 0), (1, 3)] := h3
        simp only [List.mem_cons, List.not_mem_nil, or_false] at g3
        rcases g3 with rfl | rfl
        · skip
          exact p71 tl0 el0 K0
        · skip
          exact p72 tl0 el0 K0
      · skip
        have g3 : c3 ∈ [(0, 0), (1, 3)] := h3
        simp only [List.mem_cons, List.not_mem_nil, or_false] at g3
        rcases g3 with rfl | rfl
        · skip
          exact p73 tl0 el0 K0
        · skip
          exact p74 tl0 el0 K0
theorem all5 (tl0 : List Value) (el0 K0 : Nat) : ((List.range' 3 1).all fun N0 => run N0 (.slice (some ⟨0, 0, none⟩) N0 (K0 + N0)) (heapOf [⟨intToks 0 N0 0 ++ tl0, el0, 2, 1⟩])) = true := by
  refine List.all_eq_true.2 fun N0 hN => ?_
  simp only [List.mem_range'_1] at hN
  obtain rfl : N0 = 3 := by omega
  exact lit3 tl0 el0 K0
theorem lit4 (tl0 : List Value) (el0 K0 : Nat) : run 4 (.slice (some ⟨0, 0, none⟩) 4 (K0 + 4)) (heapOf [⟨intToks 0 4 0 ++ tl0, el0, 2, 1⟩]) = true := by
  refine List.all_eq_true.2 fun c0 h0 => List.all_eq_true.2 fun c1 h1 => List.all_eq_true.2 fun c2 h2 => List.all_eq_true.2 fun c3 h3 => ?_
  have g0 : c0 ∈ [(0, 0), (1, 1), (2, 2)] := h0
  simp only [List.mem_cons, List.not_mem_nil, or_false] at g0
  rcases g0 with rfl | rfl | rfl
  · skip
    have g1 : c1 ∈ [(0, 0), (1, 3)] := h1
    simp only [List.mem_cons, List.not_mem_nil, or_false] at g1
    rcases g1 with rfl | rfl
    · skip
      have g2 : c2 ∈ [(0, 0), (1, 1), (2, 3)] := h2
      simp only [List.mem_cons, List.not_mem_nil, or_false] at g2
      rcases g2 with rfl | rfl | rfl
      · skip
        have g3 : c3 ∈ [(0, 0), (1, 3)] := h3
        simp only [List.mem_cons, List.not_mem_nil, or_false] at g3
        rcases g3 with rfl | rfl
        · skip
          exact p75 tl0 el0 K0
        · skip
          exact p76 tl0 el0 K0
      · skip
        have g3 : c3 ∈ [(0, 0), (1, 3)] := h3
        simp only [List.mem_cons, List.not_mem_nil, or_false] at g3
        rcases g3 with rfl | rfl
        · skip
          exact p77 tl0 el0 K0
        · skip
          exact p78 tl0 el0 K0
      · skip
        have g3 : c3 ∈ [(0, 0), (1, 3)] := h3
        simp only [List.mem_cons, List.not_mem_nil, or_false] at g3
        rcases g3 with rfl | rfl
        · skip
          exact p79 tl0 el0 K0
        · skip
          exact p80 tl0 el0 K0
    · skip
      have g2 : c2 ∈ [(0, 0), (1, 1), (2, 3)] := h2
      simp only [List.mem_cons, List.not_mem_nil, or_false] at g2
      rcases g2 with rfl | rfl | rfl
      · skip
        have g3 : c3 ∈ [(0, 0), (1, 3)] := h3
        simp only [List.mem_cons, List.not_mem_nil, or_false] at g3
        rcases g3 with rfl | rfl
        · skip
          exact p81 tl0 el0 K0
        · skip
          exact p82 tl0 el0 K0
      · skip
        have g3 : c3 ∈ [(0, 0), (1, 3)] := h3
        simp only [List.mem_cons, List.not_mem_nil, or_false] at g3
        rcases g3 with rfl | rfl
        · skip
          exact p83 tl0 el0 K0
        · skip
          exact p84 tl0 el0 K0
      · skip
        have g3 : c3 ∈ [(0, 0), (1, 3)] := h3
        simp only [List.mem_cons, List.not_mem_nil, or_false] at g3
        rcases g3 with rfl | rfl
        · skip
          exact p85 tl0 el0 K0
        · skip
          exact p86 tl0 el0 K0
  · skip
    have g1 : c1 ∈ [(0, 0), (1, 3)] := h1
    simp only [List.mem_cons, List.not_mem_nil, or_false] at g1
    rcases g1 with rfl | rfl
    · skip
      have g2 : c2 ∈ [(0, 0), (1, 1), (2, 2), (3, 3)] := h2
      simp only [List.mem_cons, List.not_mem_nil, or_false] at g2
      rcases g2 with rfl | rfl | rfl | rfl
      · skip
        have g3 : c3 ∈ [(0, 0), (1, 3)] := h3
        simp only [List.mem_cons, List.not_mem_nil, or_false] at g3
        rcases g3 with rfl | rfl
        · skip
          exact p87 tl0 el0 K0
        · skip
          exact p88 tl0 el0 K0
      · skip
        have g3 : c3 ∈ [(0, 0), (1, 3)] := h3
        simp only [List.mem_cons, List.not_mem_nil, or_false] at g3
        rcases g3 with rfl | rfl
        · skip
          exact p89 tl0 el0 K0
        · skip
          exact p90 tl0 el0 K0
      · skip
        have g3 : c3 ∈ [(0, 0), (1, 3)] := h3
        simp only [List.mem_cons, List.not_mem_nil, or_false] at g3
        rcases g3 with rfl | rfl
        · skip
          exact p91 tl0 el0 K0
        · skip
          exact p92 tl0 el0 K0
      · skip
        have g3 : c3 ∈ [(0, 0), (1, 3)] := h3
        simp only [List.mem_cons, List.not_mem_nil, or_false] at g3
        rcases g3 with rfl | rfl
        · skip
          exact p93 tl0 el0 K0
        · skip
          exact p94 tl0 el0 K0
    · skip
      have g2 : c2 ∈ [(0, 0), (1, 1), (2, 2), (3, 3)] := h2
      simp only [List.mem_cons, List.not_mem_nil, or_false] at g2
      rcases g2 with rfl | rfl | rfl | rfl
      · skip
        have g3 : c3 ∈ [(0, 0), (1, 3)] := h3
        simp only [List.mem_cons, List.not_mem_nil, or_false] at g3
        rcases g3 with rfl | rfl
        · skip
          exact p95 tl0 el0 K0
        · skip
          exact p96 tl0 el0 K0
      · skip
        have g3 : c3 ∈ [(0, 0), (1, 3)] := h3
        simp only [List.mem_cons, List.not_mem_nil, or_false] at g3
        rcases g3 with rfl | rfl
        · skip
          exact p97 tl0 el0 K0
        · skip
          exact p98 tl0 el0 K0
      · skip
        have g3 : c3 ∈ [(0, 0), (1, 3)] := h3
        simp only [List.mem_cons, List.not_mem_nil, or_false] at g3
        rcases g3 with rfl | rfl
        · skip
          exact p99 tl0 el0 K0
        · skip
          exact p100 tl0 el0 K0
      · skip
        have g3 : c3 ∈ [(0, 0), (1, 3)] := h3
        simp only [List.mem_cons, List.not_mem_nil, or_false] at g3
        rcases g3 with rfl | rfl
        · skip
          exact p101 tl0 el0 K0
        · skip
          exact p102 tl0 el0 K0
  · skip
    have g1 : c1 ∈ [(0, 0), (1, 3)] := h1
    simp only [List.mem_cons, List.not_mem_nil, or_false] at g1
    rcases g1 with rfl | rfl
    · skip
      have g2 : c2 ∈ [(0, 0), (1, 2), (3, 3)] := h2
      simp only [List.mem_cons, List.not_mem_nil, or_false] at g2
      rcases g2 with rfl | rfl | rfl
      · skip
        have g3 : c3 ∈ [(0, 0), (1, 3)] := h3
        simp only [List.mem_cons, List.not_mem_nil, or_false] at g3
        rcases g3 with rfl | rfl
        · skip
          exact p103 tl0 el0 K0
        · skip
          exact p104 tl0 el0 K0
      · skip
        have g3 : c3 ∈ [(0, 0), (1, 3)] := h3
        simp only [List.mem_cons, List.not_mem_nil, or_false] at g3
        rcases g3 with rfl | rfl
        · skip
          exact p105 tl0 el0 K0
        · skip
          exact p106 tl0 el0 K0
      · skip
        have g3 : c3 ∈ [(0, 0), (1, 3)] := h3
        simp only [List.mem_cons, List.not_mem_nil, or_false] at g3
        rcases g3 with rfl | rfl
        · skip
          exact p107 tl0 el0 K0
        · skip
          exact p108 tl0 el0 K0
    · skip
      have g2 : c2 ∈ [(0, 0), (1, 2), (3, 3)] := h2
      simp only [List.mem_cons, List.not_mem_nil, or_false] at g2
      rcases g2 with rfl | rfl | rfl
      · skip
        have g3 : c3 ∈ [(0, 0), (1, 3)] := h3
        simp only [List.mem_cons, List.not_mem_nil, or_false] at g3
        rcases g3 with rfl | rfl
        · skip
          exact p109 tl0 el0 K0
        · skip
          exact p110 tl0 el0 K0
      · skip
        have g3 : c3 ∈ [(0, 0), (1, 3)] := h3
        simp only [List.mem_cons, List.not_mem_nil, or_false] at g3
        rcases g3 with rfl | rfl
        · skip
          exact p111 tl0 el0 K0
        · skip
          exact p112 tl0 el0 K0
      · skip
        have g3 : c3 ∈ [(0, 0), (1, 3)] := h3
        simp only [List.mem_cons, List.not_mem_nil, or_false] at g3
        rcases g3 with rfl | rfl
        · skip
          exact p113 tl0 el0 K0
        · skip
          exact p114 tl0 el0 K0
theorem all6 (tl0 : List Value) (el0 K0 : Nat) : ((List.range' 4 1).all fun N0 => run N0 (.slice (some ⟨0, 0, none⟩) N0 (K0 + N0)) (heapOf [⟨intToks 0 N0 0 ++ tl0, el0, 2, 1⟩])) = true := by
  refine List.all_eq_true.2 fun N0 hN => ?_
  simp only [List.mem_range'_1] at hN
  obtain rfl : N0 = 4 := by omega
  exact lit4 tl0 el0 K0
theorem lit5 (tl0 : List Value) (el0 K0 : Nat) : run 5 (.slice (some ⟨0, 0, none⟩) 5 (K0 + 5)) (heapOf [⟨intToks 0 5 0 ++ tl0, el0, 2, 1⟩]) = true := by
  refine List.all_eq_true.2 fun c0 h0 => List.all_eq_true.2 fun c1 h1 => List.all_eq_true.2 fun c2 h2 => List.all_eq_true.2 fun c3 h3 => ?_
  have g0 : c0 ∈ [(0, 0), (1, 1), (2, 2)] := h0
  simp only [List.mem_cons, List.not_mem_nil, or_false] at g0
  rcases g0 with rfl | rfl | rfl
  · skip
    have g1 : c1 ∈ [(0, 0), (1, 3)] := h1
    simp only [List.mem_cons, List.not_mem_nil, or_false] at g1
    rcases g1 with rfl | rfl
    · skip
      have g2 : c2 ∈ [(0, 0), (1, 1), (2, 3)] := h2
      simp only [List.mem_cons, List.not_mem_nil, or_false] at g2
      rcases g2 with rfl | rfl | rfl
      · skip
        have g3 : c3 ∈ [(0, 0), (1, 3)] := h3
        simp only [List.mem_cons, List.not_mem_nil, or_false] at g3
        rcases g3 with rfl | rfl
        · skip
          exact p115 tl0 el0 K0
        · skip
          exact p116 tl0 el0 K0
      · skip
        have g3 : c3 ∈ [(0, 0), (1, 3)] := h3
        simp only [List.mem_cons, List.not_mem_nil, or_false] at g3
        rcases g3 with rfl | rfl
        · skip
          exact p117 tl0 el0 K0
        · skip
          exact p118 tl0 el0 K0
      · skip
        have g3 : c3 ∈ [(0, 0), (1, 3)] := h3
        simp only [List.mem_cons, List.not_mem_nil, or_false] at g3
        rcases g3 with rfl | rfl
        · skip
          exact p119 tl0 el0 K0
        · skip
          exact p120 tl0 el0 K0
    · skip
      have g2 : c2 ∈ [(0, 0), (1, 1), (2, 3)] := h2
      simp only [List.mem_cons, List.not_mem_nil, or_false] at g2
      rcases g2 with rfl | rfl | rfl
      · skip
        have g3 : c3 ∈ [(0, 0), (1, 3)] := h3
        simp only [List.mem_cons, List.not_mem_nil, or_false] at g3
        rcases g3 with rfl | rfl
        · skip
          exact p121 tl0 el0 K0
        · skip
          exact p122 tl0 el0 K0
      · skip
        have g3 : c3 ∈ [(0, 0), (1, 3)] := h3
        simp only [List.mem_cons, List.not_mem_nil, or_false] at g3
        rcases g3 with rfl | rfl
        · skip
          exact p123 tl0 el0 K0
        · skip
          exact p124 tl0 el0 K0
      · skip
        have g3 : c3 ∈ [(0, 0), (1, 3)] := h3
        simp only [List.mem_cons, List.not_mem_nil, or_false] at g3
        rcases g3 with rfl | rfl
        · skip
          exact p125 tl0 el0 K0
        · skip
          exact p126 tl0 el0 K0
  · skip
    have g1 : c1 ∈ [(0, 0), (1, 3)] := h1
    simp only [List.mem_cons, List.not_mem_nil, or_false] at g1
    rcases g1 with rfl | rfl
    · skip
      have g2 : c2 ∈ [(0, 0), (1, 1), (2, 2), (3, 3)] := h2
      simp only [List.mem_cons, List.not_mem_nil, or_false] at g2
      rcases g2 with rfl | rfl | rfl | rfl
      · skip
        have g3 : c3 ∈ [(0, 0), (1, 3)] := h3
        simp only [List.mem_cons, List.not_mem_nil, or_false] at g3
        rcases g3 with rfl | rfl
        · skip
          exact p127 tl0 el0 K0
        · skip
          exact p128 tl0 el0 K0
      · skip
        have g3 : c3 ∈ [(0, 0), (1, 3)] := h3
        simp only [List.mem_cons, List.not_mem_nil, or_false] at g3
        rcases g3 with rfl | rfl
        · skip
          exact p129 tl0 el0 K0
        · skip
          exact p130 tl0 el0 K0
      · skip
        have g3 : c3 ∈ [(0, 0), (1, 3)] := h3
        simp only [List.mem_cons, List.not_mem_nil, or_false] at g3
        rcases g3 with rfl | rfl
        · skip
          exact p131 tl0 el0 K0
        · skip
          exact p132 tl0 el0 K0
      · skip
        have g3 : c3 ∈ [(0, 0), (1, 3)] := h3
        simp only [List.mem_cons, List.not_mem_nil, or_false] at g3
        rcases g3 with rfl | rfl
        · skip
          exact p133 tl0 el0 K0
        · skip
          exact p134 tl0 el0 K0
    · skip
      have g2 : c2 ∈ [(0, 0), (1, 1), (2, 2), (3, 3)] := h2
      simp only [List.mem_cons, List.not_mem_nil, or_false] at g2
      rcases g2 with rfl | rfl | rfl | rfl
      · skip
        have g3 : c3 ∈ [(0, 0), (1, 3)] := h3
        simp only [List.mem_cons, List.not_mem_nil, or_false] at g3
        rcases g3 with rfl | rfl
        · skip
          exact p135 tl0 el0 K0
        · skip
          exact p136 tl0 el0 K0
      · skip
        have g3 : c3 ∈ [(0, 0), (1, 3)] := h3
        simp only [List.mem_cons, List.not_mem_nil, or_false] at g3
        rcases g3 with rfl | rfl
        · skip
          exact p137 tl0 el0 K0
        · skip
          exact p138 tl0 el0 K0
      · skip
        have g3 : c3 ∈ [(0, 0), (1, 3)] := h3
        simp only [List.mem_cons, List.not_mem_nil, or_false] at g3
        rcases g3 with rfl | rfl
        · skip
          exact p139 tl0 el0 K0
        · skip
          exact p140 tl0 el0 K0
      · skip
        have g3 : c3 ∈ [(0, 0), (1, 3)] := h3
        simp only [List.mem_cons, List.not_mem_nil, or_false] at g3
        rcases g3 with rfl | rfl
        · skip
          exact p141 tl0 el0 K0
        · skip
          exact p142 tl0 el0 K0
  · skip
    have g1 : c1 ∈ [(0, 0), (1, 3)] := h1
    simp only [List.mem_cons, List.not_mem_nil, or_false] at g1
    rcases g1 with rfl | rfl
    · skip
      have g2 : c2 ∈ [(0, 0), (1, 2), (3, 3)] := h2
      simp only [List.mem_cons, List.not_mem_nil, or_false] at g2
      rcases g2 with rfl | rfl | rfl
      · skip
        have g3 : c3 ∈ [(0, 0), (1, 3)] := h3
        simp only [List.mem_cons, List.not_mem_nil, or_false] at g3
        rcases g3 with rfl | rfl
        · skip
          exact p143 tl0 el0 K0
        · skip
          exact p144 tl0 el0 K0
      · skip
        have g3 : c3 ∈ [(0, 0), (1, 3)] := h3
        simp only [List.mem_cons, List.not_mem_nil, or_false] at g3
        rcases g3 with rfl | rfl
        · skip
          exact p145 tl0 el0 K0
        · skip
          exact p146 tl0 el0 K0
      · skip
        have g3 : c3 ∈ [(0, 0), (1, 3)] := h3
        simp only [List.mem_cons, List.not_mem_nil, or_false] at g3
        rcases g3 with rfl | rfl
        · skip
          exact p147 tl0 el0 K0
        · skip
          exact p148 tl0 el0 K0
    · skip
      have g2 : c2 ∈ [(0, 0), (1, 2), (3, 3)] := h2
      simp only [List.mem_cons, List.not_mem_nil, or_false] at g2
      rcases g2 with rfl | rfl | rfl
      · skip
        have g3 : c3 ∈ [(0, 0), (1, 3)] := h3
        simp only [List.mem_cons, List.not_mem_nil, or_false] at g3
        rcases g3 with rfl | rfl
        · skip
          exact p149 tl0 el0 K0
        · skip
          exact p150 tl0 el0 K0
      · skip
        have g3 : c3 ∈ [(0, 0), (1, 3)] := h3
        simp only [List.mem_cons, List.not_mem_nil, or_false] at g3
        rcases g3 with rfl | rfl
        · skip
          exact p151 tl0 el0 K0
        · skip
          exact p152 tl0 el0 K0
      · skip
        have g3 : c3 ∈ [(0, 0), (1, 3)] := h3
        simp only [List.mem_cons, List.not_mem_nil, or_false] at g3
        rcases g3 with rfl | rfl
        · skip
          exact p153 tl0 el0 K0
        · skip
          exact p154 tl0 el0 K0
theorem all7 (tl0 : List Value) (el0 K0 : Nat) : ((List.range' 5 1).all fun N0 => run N0 (.slice (some ⟨0, 0, none⟩) N0 (K0 + N0)) (heapOf [⟨intToks 0 N0 0 ++ tl0, el0, 2, 1⟩])) = true := by
  refine List.all_eq_true.2 fun N0 hN => ?_
  simp only [List.mem_range'_1] at hN
  obtain rfl : N0 = 5 := by omega
  exact lit5 tl0 el0 K0
theorem lit6 (tl0 : List Value) (el0 K0 : Nat) : run 6 (.slice (some ⟨0, 0, none⟩) 6 (K0 + 6)) (heapOf [⟨intToks 0 6 0 ++ tl0, el0, 2, 1⟩]) = true := by
  refine List.all_eq_true.2 fun c0 h0 => List.all_eq_true.2 fun c1 h1 => List.all_eq_true.2 fun c2 h2 => List.all_eq_true.2 fun c3 h3 => ?_
  have g0 : c0 ∈ [(0, 0), (1, 1), (2, 2)] := h0
  simp only [List.mem_cons, List.not_mem_nil, or_false] at g0
  rcases g0 with rfl | rfl | rfl
  · skip
    have g1 : c1 ∈ [(0, 0), (1, 3)] := h1
    simp only [List.mem_cons, List.not_mem_nil, or_false] at g1
    rcases g1 with rfl | rfl
    · skip
      have g2 : c2 ∈ [(0, 0), (1, 1), (2, 3)] := h2
      simp only [List.mem_cons, List.not_mem_nil, or_false] at g2
      rcases g2 with rfl | rfl | rfl
      · skip
        have g3 : c3 ∈ [(0, 0), (1, 3)] := h3
        simp only [List.mem_cons, List.not_mem_nil, or_false] at g3
        rcases g3 with rfl | rfl
        · skip
          exact p155 tl0 el0 K0
        · skip
          exact p156 tl0 el0 K0
      · skip
        have g3 : c3 ∈ [(0, 0), (1, 3)] := h3
        simp only [List.mem_cons, List.not_mem_nil, or_false] at g3
        rcases g3 with rfl | rfl
        · skip
          exact p157 tl0 el0 K0
        · skip
          exact p158 tl0 el0 K0
      · skip
        have g3 : c3 ∈ [(0, 0), (1, 3)] := h3
        simp only [List.mem_cons, List.not_mem_nil, or_false] at g3
        rcases g3 with rfl | rfl
        · skip
          exact p159 tl0 el0 K0
        · skip
          exact p160 tl0 el0 K0
    · skip
      have g2 : c2 ∈ [(0, 0), (1, 1), (2, 3)] := h2
      simp only [List.mem_cons, List.not_mem_nil, or_false] at g2
      rcases g2 with rfl | rfl | rfl
      · skip
        have g3 : c3 ∈ [(0, 0), (1, 3)] := h3
        simp only [List.mem_cons, List.not_mem_nil, or_false] at g3
        rcases g3 with rfl | rfl
        · skip
          exact p161 tl0 el0 K0
        · skip
          exact p162 tl0 el0 K0
      · skip
        have g3 : c3 ∈ [(0, 0), (1, 3)] := h3
        simp only [List.mem_cons, List.not_mem_nil, or_false] at g3
        rcases g3 with rfl | rfl
        · skip
          exact p163 tl0 el0 K0
        · skip
          exact p164 tl0 el0 K0
      · skip
        have g3 : c3 ∈ [(0, 0), (1, 3)] := h3
        simp only [List.mem_cons, List.not_mem_nil, or_false] at g3
        rcases g3 with rfl | rfl
        · skip
          exact p165 tl0 el0 K0
        · skip
          exact p166 tl0 el0 K0
  · skip
    have g1 : c1 ∈ [(0, 0), (1, 3)] := h1
    simp only [List.mem_cons, List.not_mem_nil, or_false] at g1
    rcases g1 with rfl | rfl
    · skip
      have g2 : c2 ∈ [(0, 0), (1, 1), (2, 2), (3, 3)] := h2
      simp only [List.mem_cons, List.not_mem_nil, or_false] at g2
      rcases g2 with rfl | rfl | rfl | rfl
      · skip
        have g3 : c3 ∈ [(0, 0), (1, 3)] := h3
        simp only [List.mem_cons, List.not_mem_nil, or_false] at g3
        rcases g3 with rfl | rfl
        · skip
          exact p167 tl0 el0 K0
        · skip
          exact p168 tl0 el0 K0
      · skip
        have g3 : c3 ∈ [(0, 0), (1, 3)] := h3
        simp only [List.mem_cons, List.not_mem_nil, or_false] at g3
        rcases g3 with rfl | rfl
        · skip
          exact p169 tl0 el0 K0
        · skip
          exact p170 tl0 el0 K0
      · skip
        have g3 : c3 ∈ [(0, 0), (1, 3)] := h3
        simp only [List.mem_cons, List.not_mem_nil, or_false] at g3
        rcases g3 with rfl | rfl
        · skip
          exact p171 tl0 el0 K0
        · skip
          exact p172 tl0 el0 K0
      · skip
        have g3 : c3 ∈ [(0, 0), (1, 3)] := h3
        simp only [List.mem_cons, List.not_mem_nil, or_false] at g3
        rcases g3 with rfl | rfl
        · skip
          exact p173 tl0 el0 K0
        · skip
          exact p174 tl0 el0 K0
    · skip
      have g2 : c2 ∈ [(0, 0), (1, 1), (2, 2), (3, 3)] := h2
      simp only [List.mem_cons, List.not_mem_nil, or_false] at g2
      rcases g2 with rfl | rfl | rfl | rfl
      · skip
        have g3 : c3 ∈ [(0, 0), (1, 3)] := h3
        simp only [List.mem_cons, List.not_mem_nil, or_false] at g3
        rcases g3 with rfl | rfl
        · skip
          exact p175 tl0 el0 K0
        · skip
          exact p176 tl0 el0 K0
      · skip
        have g3 : c3 ∈ [(0, 0), (1, 3)] := h3
        simp only [List.mem_cons, List.not_mem_nil, or_false] at g3
        rcases g3 with rfl | rfl
        · skip
          exact p177 tl0 el0 K0
        · skip
          exact p178 tl0 el0 K0
      · skip
        have g3 : c3 ∈ [(0, 0), (1, 3)] := h3
        simp only [List.mem_cons, List.not_mem_nil, or_false] at g3
        rcases g3 with rfl | rfl
        · skip
          exact p179 tl0 el0 K0
        · skip
          exact p180 tl0 el0 K0
      · skip
        have g3 : c3 ∈ [(0, 0), (1, 3)] := h3
        simp only [List.mem_cons, List.not_mem_nil, or_false] at g3
        rcases g3 with rfl | rfl
        · skip
          exact p181 tl0 el0 K0
        · skip
          exact p182 tl0 el0 K0
  · skip
    have g1 : c1 ∈ [(0, 0), (1, 3)] := h1
    simp only [List.mem_cons, List.not_mem_nil, or_false] at g1
    rcases g1 with rfl | rfl
    · skip
      have g2 : c2 ∈ [(0, 0), (1, 2), (3, 3)] := h2
      simp only [List.mem_cons, List.not_mem_nil, or_false] at g2
      rcases g2 with rfl | rfl | rfl
      · skip
        have g3 : c3 ∈ [(0, 0), (1, 3)] := h3
        simp only [List.mem_cons, List.not_mem_nil, or_false] at g3
        rcases g3 with rfl | rfl
        · skip
          exact p183 tl0 el0 K0
        · skip
          exact p184 tl0 el0 K0
      · skip
        have g3 : c3 ∈ [(0, 0), (1, 3)] := h3
        simp only [List.mem_cons, List.not_mem_nil, or_false] at g3
        rcases g3 with rfl | rfl
        · skip
          exact p185 tl0 el0 K0
        · skip
          exact p186 tl0 el0 K0
      · skip
        have g3 : c3 ∈ [(0, 0), (1, 3)] := h3
        simp only [List.mem_cons, List.not_mem_nil, or_false] at g3
        rcases g3 with rfl | rfl
        · skip
          exact p187 tl0 el0 K0
        · skip
          exact p188 tl0 el0 K0
    · skip
      have g2 : c2 ∈ [(0, 0), (1, 2), (3, 3)] := h2
      simp only [List.mem_cons, List.not_mem_nil, or_false] at g2
      rcases g2 with rfl | rfl | rfl
      · skip
        have g3 : c3 ∈ [(0, 0), (1, 3)] := h3
        simp only [List.mem_cons, List.not_mem_nil, or_false] at g3
        rcases g3 with rfl | rfl
        · skip
          exact p189 tl0 el0 K0
        · skip
          exact p190 tl0 el0 K0
      · skip
        have g3 : c3 ∈ [(0, 0), (1, 3)] := h3
        simp only [List.mem_cons, List.not_mem_nil, or_false] at g3
        rcases g3 with rfl | rfl
        · skip
          exact p191 tl0 el0 K0
        · skip
          exact p192 tl0 el0 K0
      · skip
        have g3 : c3 ∈ [(0, 0), (1, 3)] := h3
        simp only [List.mem_cons, List.not_mem_nil, or_false] at g3
        rcases g3 with rfl | rfl
        · skip
          exact p193 tl0 el0 K0
        · skip
          exact p194 tl0 el0 K0
theorem all8 (tl0 : List Value) (el0 K0 : Nat) : ((List.range' 6 1).all fun N0 => run N0 (.slice (some ⟨0, 0, none⟩) N0 (K0 + N0)) (heapOf [⟨intToks 0 N0 0 ++ tl0, el0, 2, 1⟩])) = true := by
  refine List.all_eq_true.2 fun N0 hN => ?_
  simp only [List.mem_range'_1] at hN
  obtain rfl : N0 = 6 := by omega
  exact lit6 tl0 el0 K0
theorem all9 (tl0 : List Value) (el0 K0 M0 : Nat) : run 6 (.slice (some ⟨0, 0, none⟩) (M0 + 7) (K0 + (M0 + 7))) (heapOf [⟨intToks 0 6 0 ++ tl0, el0, 2, 1⟩]) = true := by
  refine List.all_eq_true.2 fun c0 h0 => List.all_eq_true.2 fun c1 h1 => List.all_eq_true.2 fun c2 h2 => List.all_eq_true.2 fun c3 h3 => ?_
  have g0 : c0 ∈ [(0, 0), (1, 1), (2, 2)] := h0
  simp only [List.mem_cons, List.not_mem_nil, or_false] at g0
  rcases g0 with rfl | rfl | rfl
  · skip
    have g1 : c1 ∈ [(0, 0), (1, 3)] := h1
    simp only [List.mem_cons, List.not_mem_nil, or_false] at g1
    rcases g1 with rfl | rfl
    · skip
      have g2 : c2 ∈ [(0, 0), (1, 1), (2, 3)] := h2
      simp only [List.mem_cons, List.not_mem_nil, or_false] at g2
      rcases g2 with rfl | rfl | rfl
      · skip
        have g3 : c3 ∈ [(0, 0), (1, 3)] := h3
        simp only [List.mem_cons, List.not_mem_nil, or_false] at g3
        rcases g3 with rfl | rfl
        · skip
          exact p195 tl0 el0 K0 M0
        · skip
          exact p196 tl0 el0 K0 M0
      · skip
        have g3 : c3 ∈ [(0, 0), (1, 3)] := h3
        simp only [List.mem_cons, List.not_mem_nil, or_false] at g3
        rcases g3 with rfl | rfl
        · skip
          exact p197 tl0 el0 K0 M0
        · skip
          exact p198 tl0 el0 K0 M0
      · skip
        have g3 : c3 ∈ [(0, 0), (1, 3)] := h3
        simp only [List.mem_cons, List.not_mem_nil, or_false] at g3
        rcases g3 with rfl | rfl
        · skip
          exact p199 tl0 el0 K0 M0
        · skip
          exact p200 tl0 el0 K0 M0
    · skip
      have g2 : c2 ∈ [(0, 0), (1, 1), (2, 3)] := h2
      simp only [List.mem_cons, List.not_mem_nil, or_false] at g2
      rcases g2 with rfl | rfl | rfl
      · skip
        have g3 : c3 ∈ [(0, 0), (1, 3)] := h3
        simp only [List.mem_cons, List.not_mem_nil, or_false] at g3
        rcases g3 with rfl | rfl
        · skip
          exact p201 tl0 el0 K0 M0
        · skip
          exact p202 tl0 el0 K0 M0
      · skip
        have g3 : c3 ∈ [(0, 0), (1, 3)] := h3
        simp only [List.mem_cons, List.not_mem_nil, or_false] at g3
        rcases g3 with rfl | rfl
        · skip
          exact p203 tl0 el0 K0 M0
        · skip
          exact p204 tl0 el0 K0 M0
      · skip
        have g3 : c3 ∈ [(0, 0), (1, 3)] := h3
        simp only [List.mem_cons, List.not_mem_nil, or_false] at g3
        rcases g3 with rfl | rfl
        · skip
          exact p205 tl0 el0 K0 M0
        · skip
          exact p206 tl0 el0 K0 M0
  · skip
    have g1 : c1 ∈ [(0, 0), (1, 3)] := h1
    simp only [List.mem_cons, List.not_mem_nil, or_false] at g1
    rcases g1 with rfl | rfl
    · skip
      have g2 : c2 ∈ [(0, 0), (1, 1), (2, 2), (3, 3)] := h2
      simp only [List.mem_cons, List.not_mem_nil, or_false] at g2
      rcases g2 with rfl | rfl | rfl | rfl
      · skip
        have g3 : c3 ∈ [(0, 0), (1, 3)] := h3
        simp only [List.mem_cons, List.not_mem_nil, or_false] at g3
        rcases g3 with rfl | rfl
        · skip
          exact p207 tl0 el0 K0 M0
        · skip
          exact p208 tl0 el0 K0 M0
      · skip
        have g3 : c3 ∈ [(0, 0), (1, 3)] := h3
        simp only [List.mem_cons, List.not_mem_nil, or_false] at g3
        rcases g3 with rfl | rfl
        · skip
          exact p209 tl0 el0 K0 M0
        · skip
          exact p210 tl0 el0 K0 M0
      · skip
        have g3 : c3 ∈ [(0, 0), (1, 3)] := h3
        simp only [List.mem_cons, List.not_mem_nil, or_false] at g3
        rcases g3 with rfl | rfl
        · skip
          exact p211 tl0 el0 K0 M0
        · skip
          exact p212 tl0 el0 K0 M0
      · skip
        have g3 : c3 ∈ [(0, 0), (1, 3)] := h3
        simp only [List.mem_cons, List.not_mem_nil, or_false] at g3
        rcases g3 with rfl | rfl
        · skip
          exact p213 tl0 el0 K0 M0
        · skip
          exact p214 tl0 el0 K0 M0
    · skip
      have g2 : c2 ∈ [(0, 0), (1, 1), (2, 2), (3, 3)] := h2
      simp only [List.mem_cons, List.not_mem_nil, or_false] at g2
      rcases g2 with rfl | rfl | rfl | rfl
      · skip
        have g3 : c3 ∈ [(0, 0), (1, 3)] := h3
        simp only [List.mem_cons, List.not_mem_nil, or_false] at g3
        rcases g3 with rfl | rfl
        · skip
          exact p215 tl0 el0 K0 M0
        · skip
          exact p216 tl0 el0 K0 M0
      · skip
        have g3 : c3 ∈ [(0, 0), (1, 3)] := h3
        simp only [List.mem_cons, List.not_mem_nil, or_false] at g3
        rcases g3 with rfl | rfl
        · skip
          exact p217 tl0 el0 K0 M0
        · skip
          exact p218 tl0 el0 K0 M0
      · skip
        have g3 : c3 ∈ [(0, 0), (1, 3)] := h3
        simp only [List.mem_cons, List.not_mem_nil, or_false] at g3
        rcases g3 with rfl | rfl
        · skip
          exact p219 tl0 el0 K0 M0
        · skip
          exact p220 tl0 el0 K0 M0
      · skip
        have g3 : c3 ∈ [(0, 0), (1, 3)] := h3
        simp only [List.mem_cons, List.not_mem_nil, or_false] at g3
        rcases g3 with rfl | rfl
        · skip
          exact p221 tl0 el0 K0 M0
        · skip
          exact p222 tl0 el0 K0 M0
  · skip
    have g1 : c1 ∈ [(0, 0), (1, 3)] := h1
    simp only [List.mem_cons, List.not_mem_nil, or_false] at g1
    rcases g1 with rfl | rfl
    · skip
      have g2 : c2 ∈ [(0, 0), (1, 2), (3, 3)] := h2
      simp only [List.mem_cons, List.not_mem_nil, or_false] at g2
      rcases g2 with rfl | rfl | rfl
      · skip
        have g3 : c3 ∈ [(0, 0), (1, 3)] := h3
        simp only [List.mem_cons, List.not_mem_nil, or_false] at g3
        rcases g3 with rfl | rfl
        · skip
          exact p223 tl0 el0 K0 M0
        · skip
          exact p224 tl0 el0 K0 M0
      · skip
        have g3 : c3 ∈ [(0, 0), (1, 3)] := h3
        simp only [List.mem_cons, List.not_mem_nil, or_false] at g3
        rcases g3 with rfl | rfl
        · skip
          exact p225 tl0 el0 K0 M0
        · skip
          exact p226 tl0 el0 K0 M0
      · skip
        have g3 : c3 ∈ [(0, 0), (1, 3)] := h3
        simp only [List.mem_cons, List.not_mem_nil, or_false] at g3
        rcases g3 with rfl | rfl
        · skip
          exact p227 tl0 el0 K0 M0
        · skip
          exact p228 tl0 el0 K0 M0
    · skip
      have g2 : c2 ∈ [(0, 0), (1, 2), (3, 3)] := h2
      simp only [List.mem_cons, List.not_mem_nil, or_false] at g2
      rcases g2 with rfl | rfl | rfl
      · skip
        have g3 : c3 ∈ [(0, 0), (1, 3)] := h3
        simp only [List.mem_cons, List.not_mem_nil, or_false] at g3
        rcases g3 with rfl | rfl
        · skip
          exact p229 tl0 el0 K0 M0
        · skip
          exact p230 tl0 el0 K0 M0
      · skip
        have g3 : c3 ∈ [(0, 0), (1, 3)] := h3
        simp only [List.mem_cons, List.not_mem_nil, or_false] at g3
        rcases g3 with rfl | rfl
        · skip
          exact p231 tl0 el0 K0 M0
        · skip
          exact p232 tl0 el0 K0 M0
      · skip
        have g3 : c3 ∈ [(0, 0), (1, 3)] := h3
        simp only [List.mem_cons, List.not_mem_nil, or_false] at g3
        rcases g3 with rfl | rfl
        · skip
          exact p233 tl0 el0 K0 M0
        · skip
          exact p234 tl0 el0 K0 M0
end Go.Proofs.Ytiheogigjogjbaa.tasksOrder
