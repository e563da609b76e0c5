/- All cases of AnswerAll, out of their parts. -/
import Derived.Test.YtlljepgfecodoaaAAP0
import Derived.Test.YtlljepgfecodoaaAAP1
import Derived.Test.YtlljepgfecodoaaAAP2
import Derived.Test.YtlljepgfecodoaaAAP3
import Derived.Test.YtlljepgfecodoaaAAP4
import Derived.Test.YtlljepgfecodoaaAAP5
import Derived.Test.YtlljepgfecodoaaAAP6
import Derived.Test.YtlljepgfecodoaaAAP7
import Derived.Test.YtlljepgfecodoaaAAP8
import Derived.Test.YtlljepgfecodoaaAAP9
import Derived.Test.YtlljepgfecodoaaAAP10
import Derived.Test.YtlljepgfecodoaaAAP11
namespace Go.Proofs.Ytlljepgfecodoaa.answerAll
set_option maxRecDepth 1000000
set_option linter.unusedVariables false
theorem all0 : run 0 (.slice none 0 0) (heapOf []) = true := by
  refine List.all_eq_true.2 fun c0 h0 => ?_
  have g0 : c0 ∈ [(0, 0), (1, 1), (2, 2), (3, 3), (4, 4), (5, 5)] := h0
  simp only [List.mem_cons, List.not_mem_nil, or_false] at g0
  rcases g0 with rfl | rfl | rfl | rfl | rfl | rfl
  · skip
    exact p0
  · skip
    exact p1
  · skip
    exact p2
  · skip
    exact p3
  · skip
    exact p4
  · skip
    exact p5
theorem all1 (tl0 : List Value) (el0 : Nat) : run 0 (.slice (some ⟨0, 0, none⟩) 0 (0 + 0)) (heapOf [⟨intToks 0 0 0 ++ tl0, el0, 2, 1⟩]) = true := by
  refine List.all_eq_true.2 fun c0 h0 => ?_
  have g0 : c0 ∈ [(0, 0), (1, 1), (2, 2), (3, 3), (4, 4), (5, 5)] := h0
  simp only [List.mem_cons, List.not_mem_nil, or_false] at g0
  rcases g0 with rfl | rfl | rfl | rfl | rfl | rfl
  · skip
    exact p6 tl0 el0
  · skip
    exact p7 tl0 el0
  · skip
    exact p8 tl0 el0
  · skip
    exact p9 tl0 el0
  · skip
    exact p10 tl0 el0
  · skip
    exact p11 tl0 el0
theorem all2 (tl0 : List Value) (el0 K0 : Nat) : run 0 (.slice (some ⟨0, 0, none⟩) 0 ((K0 + 1) + 0)) (heapOf [⟨intToks 0 0 0 ++ tl0, el0, 2, 1⟩]) = true := by
  refine List.all_eq_true.2 fun c0 h0 => ?_
  have g0 : c0 ∈ [(0, 0), (1, 1), (2, 2), (3, 3), (4, 4), (5, 5)] := h0
  simp only [List.mem_cons, List.not_mem_nil, or_false] at g0
  rcases g0 with rfl | rfl | rfl | rfl | rfl | rfl
  · skip
    exact p12 tl0 el0 K0
  · skip
    exact p13 tl0 el0 K0
  · skip
    exact p14 tl0 el0 K0
  · skip
    exact p15 tl0 el0 K0
  · skip
    exact p16 tl0 el0 K0
  · skip
    exact p17 tl0 el0 K0
theorem lit1 (tl0 : List Value) (el0 K0 : Nat) : run 1 (.slice (some ⟨0, 0, none⟩) 1 (K0 + 1)) (heapOf [⟨intToks 0 1 0 ++ tl0, el0, 2, 1⟩]) = true := by
  refine List.all_eq_true.2 fun c0 h0 => ?_
  have g0 : c0 ∈ [(0, 0), (1, 1), (2, 2), (3, 3), (4, 4), (5, 5)] := h0
  simp only [List.mem_cons, List.not_mem_nil, or_false] at g0
  rcases g0 with rfl | rfl | rfl | rfl | rfl | rfl
  · skip
    exact p18 tl0 el0 K0
  · skip
    exact p19 tl0 el0 K0
  · skip
    exact p20 tl0 el0 K0
  · skip
    exact p21 tl0 el0 K0
  · skip
    exact p22 tl0 el0 K0
  · skip
    exact p23 tl0 el0 K0
theorem all3 (tl0 : List Value) (el0 K0 : Nat) : ((List.range' 1 1).all fun N0 => run N0 (.slice (some ⟨0, 0, none⟩) N0 (K0 + N0)) (heapOf [⟨intToks 0 N0 0 ++ tl0, el0, 2, 1⟩])) = true := by
  refine List.all_eq_true.2 fun N0 hN => ?_
  simp only [List.mem_range'_1] at hN
  obtain rfl : N0 = 1 := by omega
  exact lit1 tl0 el0 K0
theorem lit2 (tl0 : List Value) (el0 K0 : Nat) : run 2 (.slice (some ⟨0, 0, none⟩) 2 (K0 + 2)) (heapOf [⟨intToks 0 2 0 ++ tl0, el0, 2, 1⟩]) = true := by
  refine List.all_eq_true.2 fun c0 h0 => ?_
  have g0 : c0 ∈ [(0, 0), (1, 1), (2, 2), (3, 3), (4, 4), (5, 5)] := h0
  simp only [List.mem_cons, List.not_mem_nil, or_false] at g0
  rcases g0 with rfl | rfl | rfl | rfl | rfl | rfl
  · skip
    exact p24 tl0 el0 K0
  · skip
    exact p25 tl0 el0 K0
  · skip
    exact p26 tl0 el0 K0
  · skip
    exact p27 tl0 el0 K0
  · skip
    exact p28 tl0 el0 K0
  · skip
    exact p29 tl0 el0 K0
theorem all4 (tl0 : List Value) (el0 K0 : Nat) : ((List.range' 2 1).all fun N0 => run N0 (.slice (some ⟨0, 0, none⟩) N0 (K0 + N0)) (heapOf [⟨intToks 0 N0 0 ++ tl0, el0, 2, 1⟩])) = true := by
  refine List.all_eq_true.2 fun N0 hN => ?_
  simp only [List.mem_range'_1] at hN
  obtain rfl : N0 = 2 := by omega
  exact lit2 tl0 el0 K0
theorem lit3 (tl0 : List Value) (el0 K0 : Nat) : run 3 (.slice (some ⟨0, 0, none⟩) 3 (K0 + 3)) (heapOf [⟨intToks 0 3 0 ++ tl0, el0, 2, 1⟩]) = true := by
  refine List.all_eq_true.2 fun c0 h0 => List.all_eq_true.2 fun c1 h1 => ?_
  have g0 : c0 ∈ [(0, 0), (1, 1), (2, 2), (3, 3), (4, 4), (5, 5)] := h0
  simp only [List.mem_cons, List.not_mem_nil, or_false] at g0
  rcases g0 with rfl | rfl | rfl | rfl | rfl | rfl
  · skip
    have g1 : c1 ∈ [(0, 0), (1, 1), (2, 2), (3, 3), (4, 4), (5, 5), (6, 6), (7, 7)] := h1
    simp only [List.mem_cons, List.not_mem_nil, or_false] at g1
    rcases g1 with rfl | rfl | rfl | rfl | rfl | rfl | rfl | rfl
    · skip
      exact p30 tl0 el0 K0
    · skip
      exact p31 tl0 el0 K0
    · skip
      exact p32 tl0 el0 K0
    · skip
      exact p33 tl0 el0 K0
    · skip
      exact p34 tl0 el0 K0
    · skip
      exact p35 tl0 el0 K0
    · skip
      exact p36 tl0 el0 K0
    · skip
      exact p37 tl0 el0 K0
  · skip
    have g1 : c1 ∈ [(0, 0), (1, 1), (2, 2), (3, 3), (4, 4), (5, 5), (6, 6), (7, 7)] := h1
    simp only [List.mem_cons, List.not_mem_nil, or_false] at g1
    rcases g1 with rfl | rfl | rfl | rfl | rfl | rfl | rfl | rfl
    · skip
      exact p38 tl0 el0 K0
    · skip
      exact p39 tl0 el0 K0
    · skip
      exact p40 tl0 el0 K0
    · skip
      exact p41 tl0 el0 K0
    · skip
      exact p42 tl0 el0 K0
    · skip
      exact p43 tl0 el0 K0
    · skip
      exact p44 tl0 el0 K0
    · skip
      exact p45 tl0 el0 K0
  · skip
    have g1 : c1 ∈ [(0, 0), (1, 1), (2, 2), (3, 3), (4, 4), (5, 5), (6, 6), (7, 7)] := h1
    simp only [List.mem_cons, List.not_mem_nil, or_false] at g1
    rcases g1 with rfl | rfl | rfl | rfl | rfl | rfl | rfl | rfl
    · skip
      exact p46 tl0 el0 K0
    · skip
      exact p47 tl0 el0 K0
    · skip
      exact p48 tl0 el0 K0
    · skip
      exact p49 tl0 el0 K0
    · skip
      exact p50 tl0 el0 K0
    · skip
      exact p51 tl0 el0 K0
    · skip
      exact p52 tl0 el0 K0
    · skip
      exact p53 tl0 el0 K0
  · skip
    have g1 : c1 ∈ [(0, 0), (1, 1), (2, 2), (3, 3), (4, 4), (5, 5), (6, 6), (7, 7)] := h1
    simp only [List.mem_cons, List.not_mem_nil, or_false] at g1
    rcases g1 with rfl | rfl | rfl | rfl | rfl | rfl | rfl | rfl
    · skip
      exact p54 tl0 el0 K0
    · skip
      exact p55 tl0 el0 K0
    · skip
      exact p56 tl0 el0 K0
    · skip
      exact p57 tl0 el0 K0
    · skip
      exact p58 tl0 el0 K0
    · skip
      exact p59 tl0 el0 K0
    · skip
      exact p60 tl0 el0 K0
    · skip
      exact p61 tl0 el0 K0
  · skip
    have g1 : c1 ∈ [(0, 0), (1, 1), (2, 2), (3, 3), (4, 4), (5, 5), (6, 6), (7, 7)] := h1
    simp only [List.mem_cons, List.not_mem_nil, or_false] at g1
    rcases g1 with rfl | rfl | rfl | rfl | rfl | rfl | rfl | rfl
    · skip
      exact p62 tl0 el0 K0
    · skip
      exact p63 tl0 el0 K0
    · skip
      exact p64 tl0 el0 K0
    · skip
      exact p65 tl0 el0 K0
    · skip
      exact p66 tl0 el0 K0
    · skip
      exact p67 tl0 el0 K0
    · skip
      exact p68 tl0 el0 K0
    · skip
      exact p69 tl0 el0 K0
  · skip
    have g1 : c1 ∈ [(0, 0), (1, 1), (2, 2), (3, 3), (4, 4), (5, 5), (6, 6), (7, 7)] := h1
    simp only [List.mem_cons, List.not_mem_nil, or_false] at g1
    rcases g1 with rfl | rfl | rfl | rfl | rfl | rfl | rfl | rfl
    · skip
      exact p70 tl0 el0 K0
    · skip
      exact p71 tl0 el0 K0
    · skip
      exact p72 tl0 el0 K0
    · skip
      exact p73 tl0 el0 K0
    · skip
      exact p74 tl0 el0 K0
    · skip
      exact p75 tl0 el0 K0
    · skip
      exact p76 tl0 el0 K0
    · skip
      exact p77 tl0 el0 K0
theorem all5 (tl0 : List Value) (el0 K0 : Nat) : ((List.range' 3 1).all fun N0 => run N0 (.slice (some ⟨0, 0, none⟩) N0 (K0 + N0)) (heapOf [⟨intToks 0 N0 0 ++ tl0, el0, 2, 1⟩])) = true := by
  refine List.all_eq_true.2 fun N0 hN => ?_
  simp only [List.mem_range'_1] at hN
  obtain rfl : N0 = 3 := by omega
  exact lit3 tl0 el0 K0
theorem lit4 (tl0 : List Value) (el0 K0 : Nat) : run 4 (.slice (some ⟨0, 0, none⟩) 4 (K0 + 4)) (heapOf [⟨intToks 0 4 0 ++ tl0, el0, 2, 1⟩]) = true := by
  refine List.all_eq_true.2 fun c0 h0 => List.all_eq_true.2 fun c1 h1 => List.all_eq_true.2 fun c2 h2 => ?_
  have g0 : c0 ∈ [(0, 0), (1, 1), (2, 2), (3, 3), (4, 4), (5, 5)] := h0
  simp only [List.mem_cons, List.not_mem_nil, or_false] at g0
  rcases g0 with rfl | rfl | rfl | rfl | rfl | rfl
  · skip
    have g1 : c1 ∈ [(0, 0), (1, 1), (2, 2), (3, 3), (4, 4), (5, 5), (6, 6), (7, 7)] := h1
    simp only [List.mem_cons, List.not_mem_nil, or_false] at g1
    rcases g1 with rfl | rfl | rfl | rfl | rfl | rfl | rfl | rfl
    · skip
      have g2 : c2 ∈ [(0, 0), (1, 1), (2, 2), (3, 3), (4, 4), (5, 5), (6, 6), (7, 7)] := h2
      simp only [List.mem_cons, List.not_mem_nil, or_false] at g2
      rcases g2 with rfl | rfl | rfl | rfl | rfl | rfl | rfl | rfl
      · skip
        exact p78 tl0 el0 K0
      · skip
        exact p79 tl0 el0 K0
      · skip
        exact p80 tl0 el0 K0
      · skip
        exact p81 tl0 el0 K0
      · skip
        exact p82 tl0 el0 K0
      · skip
        exact p83 tl0 el0 K0
      · skip
        exact p84 tl0 el0 K0
      · skip
        exact p85 tl0 el0 K0
    · skip
      have g2 : c2 ∈ [(0, 0), (1, 1), (2, 2), (3, 3), (4, 4), (5, 5), (6, 6), (7, 7)] := h2
      simp only [List.mem_cons, List.not_mem_nil, or_false] at g2
      rcases g2 with rfl | rfl | rfl | rfl | rfl | rfl | rfl | rfl
      · skip
        exact p86 tl0 el0 K0
      · skip
        exact p87 tl0 el0 K0
      · skip
        exact p88 tl0 el0 K0
      · skip
        exact p89 tl0 el0 K0
      · skip
        exact p90 tl0 el0 K0
      · skip
        exact p91 tl0 el0 K0
      · skip
        exact p92 tl0 el0 K0
      · skip
        exact p93 tl0 el0 K0
    · skip
      have g2 : c2 ∈ [(0, 0), (1, 1), (2, 2), (3, 3), (4, 4), (5, 5), (6, 6), (7, 7)] := h2
      simp only [List.mem_cons, List.not_mem_nil, or_false] at g2
      rcases g2 with rfl | rfl | rfl | rfl | rfl | rfl | rfl | rfl
      · skip
        exact p94 tl0 el0 K0
      · skip
        exact p95 tl0 el0 K0
      · skip
        exact p96 tl0 el0 K0
      · skip
        exact p97 tl0 el0 K0
      · skip
        exact p98 tl0 el0 K0
      · skip
        exact p99 tl0 el0 K0
      · skip
        exact p100 tl0 el0 K0
      · skip
        exact p101 tl0 el0 K0
    · skip
      have g2 : c2 ∈ [(0, 0), (1, 1), (2, 2), (3, 3), (4, 4), (5, 5), (6, 6), (7, 7)] := h2
      simp only [List.mem_cons, List.not_mem_nil, or_false] at g2
      rcases g2 with rfl | rfl | rfl | rfl | rfl | rfl | rfl | rfl
      · skip
        exact p102 tl0 el0 K0
      · skip
        exact p103 tl0 el0 K0
      · skip
        exact p104 tl0 el0 K0
      · skip
        exact p105 tl0 el0 K0
      · skip
        exact p106 tl0 el0 K0
      · skip
        exact p107 tl0 el0 K0
      · skip
        exact p108 tl0 el0 K0
      · skip
        exact p109 tl0 el0 K0
    · skip
      have g2 : c2 ∈ [(0, 0), (1, 1), (2, 2), (3, 3), (4, 4), (5, 5), (6, 6), (7, 7)] := h2
      simp only [List.mem_cons, List.not_mem_nil, or_false] at g2
      rcases g2 with rfl | rfl | rfl | rfl | rfl | rfl | rfl | rfl
      · skip
        exact p110 tl0 el0 K0
      · skip
        exact p111 tl0 el0 K0
      · skip
        exact p112 tl0 el0 K0
      · skip
        exact p113 tl0 el0 K0
      · skip
        exact p114 tl0 el0 K0
      · skip
        exact p115 tl0 el0 K0
      · skip
        exact p116 tl0 el0 K0
      · skip
        exact p117 tl0 el0 K0
    · skip
      have g2 : c2 ∈ [(0, 0), (1, 1), (2, 2), (3, 3), (4, 4), (5, 5), (6, 6), (7, 7)] := h2
      simp only [List.mem_cons, List.not_mem_nil, or_false] at g2
      rcases g2 with rfl | rfl | rfl | rfl | rfl | rfl | rfl | rfl
      · skip
        exact p118 tl0 el0 K0
      · skip
        exact p119 tl0 el0 K0
      · skip
        exact p120 tl0 el0 K0
      · skip
        exact p121 tl0 el0 K0
      · skip
        exact p122 tl0 el0 K0
      · skip
        exact p123 tl0 el0 K0
      · skip
        exact p124 tl0 el0 K0
      · skip
        exact p125 tl0 el0 K0
    · skip
      have g2 : c2 ∈ [(0, 0), (1, 1), (2, 2), (3, 3), (4, 4), (5, 5), (6, 6), (7, 7)] := h2
      simp only [List.mem_cons, List.not_mem_nil, or_false] at g2
      rcases g2 with rfl | rfl | rfl | rfl | rfl | rfl | rfl | rfl
      · skip
        exact p126 tl0 el0 K0
      · skip
        exact p127 tl0 el0 K0
      · skip
        exact p128 tl0 el0 K0
      · skip
        exact p129 tl0 el0 K0
      · skip
        exact p130 tl0 el0 K0
      · skip
        exact p131 tl0 el0 K0
      · skip
        exact p132 tl0 el0 K0
      · skip
        exact p133 tl0 el0 K0
    · skip
      have g2 : c2 ∈ [(0, 0), (1, 1), (2, 2), (3, 3), (4, 4), (5, 5), (6, 6), (7, 7)] := h2
      simp only [List.mem_cons, List.not_mem_nil, or_false] at g2
      rcases g2 with rfl | rfl | rfl | rfl | rfl | rfl | rfl | rfl
      · skip
        exact p134 tl0 el0 K0
      · skip
        exact p135 tl0 el0 K0
      · skip
        exact p136 tl0 el0 K0
      · skip
        exact p137 tl0 el0 K0
      · skip
        exact p138 tl0 el0 K0
      · skip
        exact p139 tl0 el0 K0
      · skip
        exact p140 tl0 el0 K0
      · skip
        exact p141 tl0 el0 K0
  · skip
    have g1 : c1 ∈ [(0, 0), (1, 1), (2, 2), (3, 3), (4, 4), (5, 5), (6, 6), (7, 7)] := h1
    simp only [List.mem_cons, List.not_mem_nil, or_false] at g1
    rcases g1 with rfl | rfl | rfl | rfl | rfl | rfl | rfl | rfl
    · skip
      have g2 : c2 ∈ [(0, 0), (1, 1), (2, 2), (3, 3), (4, 4), (5, 5), (6, 6), (7, 7)] := h2
      simp only [List.mem_cons, List.not_mem_nil, or_false] at g2
      rcases g2 with rfl | rfl | rfl | rfl | rfl | rfl | rfl | rfl
      · skip
        exact p142 tl0 el0 K0
      · skip
        exact p143 tl0 el0 K0
      · skip
        exact p144 tl0 el0 K0
      · skip
        exact p145 tl0 el0 K0
      · skip
        exact p146 tl0 el0 K0
      · skip
        exact p147 tl0 el0 K0
      · skip
        exact p148 tl0 el0 K0
      · skip
        exact p149 tl0 el0 K0
    · skip
      have g2 : c2 ∈ [(0, 0), (1, 1), (2, 2), (3, 3), (4, 4), (5, 5), (6, 6), (7, 7)] := h2
      simp only [List.mem_cons, List.not_mem_nil, or_false] at g2
      rcases g2 with rfl | rfl | rfl | rfl | rfl | rfl | rfl | rfl
      · skip
        exact p150 tl0 el0 K0
      · skip
        exact p151 tl0 el0 K0
      · skip
        exact p152 tl0 el0 K0
      · skip
        exact p153 tl0 el0 K0
      · skip
        exact p154 tl0 el0 K0
      · skip
        exact p155 tl0 el0 K0
      · skip
        exact p156 tl0 el0 K0
      · skip
        exact p157 tl0 el0 K0
    · skip
      have g2 : c2 ∈ [(0, 0), (1, 1), (2, 2), (3, 3), (4, 4), (5, 5), (6, 6), (7, 7)] := h2
      simp only [List.mem_cons, List.not_mem_nil, or_false] at g2
      rcases g2 with rfl | rfl | rfl | rfl | rfl | rfl | rfl | rfl
      · skip
        exact p158 tl0 el0 K0
      · skip
        exact p159 tl0 el0 K0
      · skip
        exact p160 tl0 el0 K0
      · skip
        exact p161 tl0 el0 K0
      · skip
        exact p162 tl0 el0 K0
      · skip
        exact p163 tl0 el0 K0
      · skip
        exact p164 tl0 el0 K0
      · skip
        exact p165 tl0 el0 K0
    · skip
      have g2 : c2 ∈ [(0, 0), (1, 1), (2, 2), (3, 3), (4, 4), (5, 5), (6, 6), (7, 7)] := h2
      simp only [List.mem_cons, List.not_mem_nil, or_false] at g2
      rcases g2 with rfl | rfl | rfl | rfl | rfl | rfl | rfl | rfl
      · skip
        exact p166 tl0 el0 K0
      · skip
        exact p167 tl0 el0 K0
      · skip
        exact p168 tl0 el0 K0
      · skip
        exact p169 tl0 el0 K0
      · skip
        exact p170 tl0 el0 K0
      · skip
        exact p171 tl0 el0 K0
      · skip
        exact p172 tl0 el0 K0
      · skip
        exact p173 tl0 el0 K0
    · skip
      have g2 : c2 ∈ [(0, 0), (1, 1), (2, 2), (3, 3), (4, 4), (5, 5), (6, 6), (7, 7)] := h2
      simp only [List.mem_cons, List.not_mem_nil, or_false] at g2
      rcases g2 with rfl | rfl | rfl | rfl | rfl | rfl | rfl | rfl
      · skip
        exact p174 tl0 el0 K0
      · skip
        exact p175 tl0 el0 K0
      · skip
        exact p176 tl0 el0 K0
      · skip
        exact p177 tl0 el0 K0
      · skip
        exact p178 tl0 el0 K0
      · skip
        exact p179 tl0 el0 K0
      · skip
        exact p180 tl0 el0 K0
      · skip
        exact p181 tl0 el0 K0
    · skip
      have g2 : c2 ∈ [(0, 0), (1, 1), (2, 2), (3, 3), (4, 4), (5, 5), (6, 6), (7, 7)] := h2
      simp only [List.mem_cons, List.not_mem_nil, or_false] at g2
      rcases g2 with rfl | rfl | rfl | rfl | rfl | rfl | rfl | rfl
      · skip
        exact p182 tl0 el0 K0
      · skip
        exact p183 tl0 el0 K0
      · skip
        exact p184 tl0 el0 K0
      · skip
        exact p185 tl0 el0 K0
      · skip
        exact p186 tl0 el0 K0
      · skip
        exact p187 tl0 el0 K0
      · skip
        exact p188 tl0 el0 K0
      · skip
        exact p189 tl0 el0 K0
    · skip
      have g2 : c2 ∈ [(0, 0), (1, 1), (2, 2), (3, 3), (4, 4), (5, 5), (6, 6), (7, 7)] := h2
      simp only [List.mem_cons, List.not_mem_nil, or_false] at g2
      rcases g2 with rfl | rfl | rfl | rfl | rfl | rfl | rfl | rfl
      · skip
        exact p190 tl0 el0 K0
      · skip
        exact p191 tl0 el0 K0
      · skip
        exact p192 tl0 el0 K0
      · skip
        exact p193 tl0 el0 K0
      · skip
        exact p194 tl0 el0 K0
      · skip
        exact p195 tl0 el0 K0
      · skip
        exact p196 tl0 el0 K0
      · skip
        exact p197 tl0 el0 K0
    · skip
      have g2 : c2 ∈ [(0, 0), (1, 1), (2, 2), (3, 3), (4, 4), (5, 5), (6, 6), (7, 7)] := h2
      simp only [List.mem_cons, List.not_mem_nil, or_false] at g2
      rcases g2 with rfl | rfl | rfl | rfl | rfl | rfl | rfl | rfl
      · skip
        exact p198 tl0 el0 K0
      · skip
        exact p199 tl0 el0 K0
      · skip
        exact p200 tl0 el0 K0
      · skip
        exact p201 tl0 el0 K0
      · skip
        exact p202 tl0 el0 K0
      · skip
        exact p203 tl0 el0 K0
      · skip
        exact p204 tl0 el0 K0
      · skip
        exact p205 tl0 el0 K0
  · skip
    have g1 : c1 ∈ [(0, 0), (1, 1), (2, 2), (3, 3), (4, 4), (5, 5), (6, 6), (7, 7)] := h1
    simp only [List.mem_cons, List.not_mem_nil, or_false] at g1
    rcases g1 with rfl | rfl | rfl | rfl | rfl | rfl | rfl | rfl
    · skip
      have g2 : c2 ∈ [(0, 0), (1, 1), (2, 2), (3, 3), (4, 4), (5, 5), (6, 6), (7, 7)] := h2
      simp only [List.mem_cons, List.not_mem_nil, or_false] at g2
      rcases g2 with rfl | rfl | rfl | rfl | rfl | rfl | rfl | rfl
      · skip
        exact p206 tl0 el0 K0
      · skip
        exact p207 tl0 el0 K0
      · skip
        exact p208 tl0 el0 K0
      · skip
        exact p209 tl0 el0 K0
      · skip
        exact p210 tl0 el0 K0
      · skip
        exact p211 tl0 el0 K0
      · skip
        exact p212 tl0 el0 K0
      · skip
        exact p213 tl0 el0 K0
    · skip
      have g2 : c2 ∈ [(0, 0), (1, 1), (2, 2), (3, 3), (4, 4), (5, 5), (6, 6), (7, 7)] := h2
      simp only [List.mem_cons, List.not_mem_nil, or_false] at g2
      rcases g2 with rfl | rfl | rfl | rfl | rfl | rfl | rfl | rfl
      · skip
        exact p214 tl0 el0 K0
      · skip
        exact p215 tl0 el0 K0
      · skip
        exact p216 tl0 el0 K0
      · skip
        exact p217 tl0 el0 K0
      · skip
        exact p218 tl0 el0 K0
      · skip
        exact p219 tl0 el0 K0
      · skip
        exact p220 tl0 el0 K0
      · skip
        exact p221 tl0 el0 K0
    · skip
      have g2 : c2 ∈ [(0, 0), (1, 1), (2, 2), (3, 3), (4, 4), (5, 5), (6, 6), (7, 7)] := h2
      simp only [List.mem_cons, List.not_mem_nil, or_false] at g2
      rcases g2 with rfl | rfl | rfl | rfl | rfl | rfl | rfl | rfl
      · skip
        exact p222 tl0 el0 K0
      · skip
        exact p223 tl0 el0 K0
      · skip
        exact p224 tl0 el0 K0
      · skip
        exact p225 tl0 el0 K0
      · skip
        exact p226 tl0 el0 K0
      · skip
        exact p227 tl0 el0 K0
      · skip
        exact p228 tl0 el0 K0
      · skip
        exact p229 tl0 el0 K0
    · skip
      have g2 : c2 ∈ [(0, 0), (1, 1), (2, 2), (3, 3), (4, 4), (5, 5), (6, 6), (7, 7)] := h2
      simp only [List.mem_cons, List.not_mem_nil, or_false] at g2
      rcases g2 with rfl | rfl | rfl | rfl | rfl | rfl | rfl | rfl
      · skip
        exact p230 tl0 el0 K0
      · skip
        exact p231 tl0 el0 K0
      · skip
        exact p232 tl0 el0 K0
      · skip
        exact p233 tl0 el0 K0
      · skip
        exact p234 tl0 el0 K0
      · skip
        exact p235 tl0 el0 K0
      · skip
        exact p236 tl0 el0 K0
      · skip
        exact p237 tl0 el0 K0
    · skip
      have g2 : c2 ∈ [(0, 0), (1, 1), (2, 2), (3, 3), (4, 4), (5, 5), (6, 6), (7, 7)] := h2
      simp only [List.mem_cons, List.not_mem_nil, or_false] at g2
      rcases g2 with rfl | rfl | rfl | rfl | rfl | rfl | rfl | rfl
      · skip
        exact p238 tl0 el0 K0
      · skip
        exact p239 tl0 el0 K0
      · skip
        exact p240 tl0 el0 K0
      · skip
        exact p241 tl0 el0 K0
      · skip
        exact p242 tl0 el0 K0
      · skip
        exact p243 tl0 el0 K0
      · skip
        exact p244 tl0 el0 K0
      · skip
        exact p245 tl0 el0 K0
    · skip
      have g2 : c2 ∈ [(0, 0), (1, 1), (2, 2), (3, 3), (4, 4), (5, 5), (6, 6), (7, 7)] := h2
      simp only [List.mem_cons, List.not_mem_nil, or_false] at g2
      rcases g2 with rfl | rfl | rfl | rfl | rfl | rfl | rfl | rfl
      · skip
        exact p246 tl0 el0 K0
      · skip
        exact p247 tl0 el0 K0
      · skip
        exact p248 tl0 el0 K0
      · skip
        exact p249 tl0 el0 K0
      · skip
        exact p250 tl0 el0 K0
      · skip
        exact p251 tl0 el0 K0
      · skip
        exact p252 tl0 el0 K0
      · skip
        exact p253 tl0 el0 K0
    · skip
      have g2 : c2 ∈ [(0, 0), (1, 1), (2, 2), (3, 3), (4, 4), (5, 5), (6, 6), (7, 7)] := h2
      simp only [List.mem_cons, List.not_mem_nil, or_false] at g2
      rcases g2 with rfl | rfl | rfl | rfl | rfl | rfl | rfl | rfl
      · skip
        exact p254 tl0 el0 K0
      · skip
        exact p255 tl0 el0 K0
      · skip
        exact p256 tl0 el0 K0
      · skip
        exact p257 tl0 el0 K0
      · skip
        exact p258 tl0 el0 K0
      · skip
        exact p259 tl0 el0 K0
      · skip
        exact p260 tl0 el0 K0
      · skip
        exact p261 tl0 el0 K0
    · skip
      have g2 : c2 ∈ [(0, 0), (1, 1), (2, 2), (3, 3), (4, 4), (5, 5), (6, 6), (7, 7)] := h2
      simp only [List.mem_cons, List.not_mem_nil, or_false] at g2
      rcases g2 with rfl | rfl | rfl | rfl | rfl | rfl | rfl | rfl
      · skip
        exact p262 tl0 el0 K0
      · skip
        exact p263 tl0 el0 K0
      · skip
        exact p264 tl0 el0 K0
      · skip
        exact p265 tl0 el0 K0
      · skip
        exact p266 tl0 el0 K0
      · skip
        exact p267 tl0 el0 K0
      · skip
        exact p268 tl0 el0 K0
      · skip
        exact p269 tl0 el0 K0
  · skip
    have g1 : c1 ∈ [(0, 0), (1, 1), (2, 2), (3, 3), (4, 4), (5, 5), (6, 6), (7, 7)] := h1
    simp only [List.mem_cons, List.not_mem_nil, or_false] at g1
    rcases g1 with rfl | rfl | rfl | rfl | rfl | rfl | rfl | rfl
    · skip
      have g2 : c2 ∈ [(0, 0), (1, 1), (2, 2), (3, 3), (4, 4), (5, 5), (6, 6), (7, 7)] := h2
      simp only [List.mem_cons, List.not_mem_nil, or_false] at g2
      rcases g2 with rfl | rfl | rfl | rfl | rfl | rfl | rfl | rfl
      · skip
        exact p270 tl0 el0 K0
      · skip
        exact p271 tl0 el0 K0
      · skip
        exact p272 tl0 el0 K0
      · skip
        exact p273 tl0 el0 K0
      · skip
        exact p274 tl0 el0 K0
      · skip
        exact p275 tl0 el0 K0
      · skip
        exact p276 tl0 el0 K0
      · skip
        exact p277 tl0 el0 K0
    · skip
      have g2 : c2 ∈ [(0, 0), (1, 1), (2, 2), (3, 3), (4, 4), (5, 5), (6, 6), (7, 7)] := h2
      simp only [List.mem_cons, List.not_mem_nil, or_false] at g2
      rcases g2 with rfl | rfl | rfl | rfl | rfl | rfl | rfl | rfl
      · skip
        exact p278 tl0 el0 K0
      · skip
        exact p279 tl0 el0 K0
      · skip
        exact p280 tl0 el0 K0
      · skip
        exact p281 tl0 el0 K0
      · skip
        exact p282 tl0 el0 K0
      · skip
        exact p283 tl0 el0 K0
      · skip
        exact p284 tl0 el0 K0
      · skip
        exact p285 tl0 el0 K0
    · skip
      have g2 : c2 ∈ [(0, 0), (1, 1), (2, 2), (3, 3), (4, 4), (5, 5), (6, 6), (7, 7)] := h2
      simp only [List.mem_cons, List.not_mem_nil, or_false] at g2
      rcases g2 with rfl | rfl | rfl | rfl | rfl | rfl | rfl | rfl
      · skip
        exact p286 tl0 el0 K0
      · skip
        exact p287 tl0 el0 K0
      · skip
        exact p288 tl0 el0 K0
      · skip
        exact p289 tl0 el0 K0
      · skip
        exact p290 tl0 el0 K0
      · skip
        exact p291 tl0 el0 K0
      · skip
        exact p292 tl0 el0 K0
      · skip
        exact p293 tl0 el0 K0
    · skip
      have g2 : c2 ∈ [(0, 0), (1, 1), (2, 2), (3, 3), (4, 4), (5, 5), (6, 6), (7, 7)] := h2
      simp only [List.mem_cons, List.not_mem_nil, or_false] at g2
      rcases g2 with rfl | rfl | rfl | rfl | rfl | rfl | rfl | rfl
      · skip
        exact p294 tl0 el0 K0
      · skip
        exact p295 tl0 el0 K0
      · skip
        exact p296 tl0 el0 K0
      · skip
        exact p297 tl0 el0 K0
      · skip
        exact p298 tl0 el0 K0
      · skip
        exact p299 tl0 el0 K0
      · skip
        exact p300 tl0 el0 K0
      · skip
        exact p301 tl0 el0 K0
    · skip
      have g2 : c2 ∈ [(0, 0), (1, 1), (2, 2), (3, 3), (4, 4), (5, 5), (6, 6), (7, 7)] := h2
      simp only [List.mem_cons, List.not_mem_nil, or_false] at g2
      rcases g2 with rfl | rfl | rfl | rfl | rfl | rfl | rfl | rfl
      · skip
        exact p302 tl0 el0 K0
      · skip
        exact p303 tl0 el0 K0
      · skip
        exact p304 tl0 el0 K0
      · skip
        exact p305 tl0 el0 K0
      · skip
        exact p306 tl0 el0 K0
      · skip
        exact p307 tl0 el0 K0
      · skip
        exact p308 tl0 el0 K0
      · skip
        exact p309 tl0 el0 K0
    · skip
      have g2 : c2 ∈ [(0, 0), (1, 1), (2, 2), (3, 3), (4, 4), (5, 5), (6, 6), (7, 7)] := h2
      simp only [List.mem_cons, List.not_mem_nil, or_false] at g2
      rcases g2 with rfl | rfl | rfl | rfl | rfl | rfl | rfl | rfl
      · skip
        exact p310 tl0 el0 K0
      · skip
        exact p311 tl0 el0 K0
      · skip
        exact p312 tl0 el0 K0
      · skip
        exact p313 tl0 el0 K0
      · skip
        exact p314 tl0 el0 K0
      · skip
        exact p315 tl0 el0 K0
      · skip
        exact p316 tl0 el0 K0
      · skip
        exact p317 tl0 el0 K0
    · skip
      have g2 : c2 ∈ [(0, 0), (1, 1), (2, 2), (3, 3), (4, 4), (5, 5), (6, 6), (7, 7)] := h2
      simp only [List.mem_cons, List.not_mem_nil, or_false] at g2
      rcases g2 with rfl | rfl | rfl | rfl | rfl | rfl | rfl | rfl
      · skip
        exact p318 tl0 el0 K0
      · skip
        exact p319 tl0 el0 K0
      · skip
        exact p320 tl0 el0 K0
      · skip
        exact p321 tl0 el0 K0
      · skip
        exact p322 tl0 el0 K0
      · skip
        exact p323 tl0 el0 K0
      · skip
        exact p324 tl0 el0 K0
      · skip
        exact p325 tl0 el0 K0
    · skip
      have g2 : c2 ∈ [(0, 0), (1, 1), (2, 2), (3, 3), (4, 4), (5, 5), (6, 6), (7, 7)] := h2
      simp only [List.mem_cons, List.not_mem_nil, or_false] at g2
      rcases g2 with rfl | rfl | rfl | rfl | rfl | rfl | rfl | rfl
      · skip
        exact p326 tl0 el0 K0
      · skip
        exact p327 tl0 el0 K0
      · skip
        exact p328 tl0 el0 K0
      · skip
        exact p329 tl0 el0 K0
      · skip
        exact p330 tl0 el0 K0
      · skip
        exact p331 tl0 el0 K0
      · skip
        exact p332 tl0 el0 K0
      · skip
        exact p333 tl0 el0 K0
  · skip
    have g1 : c1 ∈ [(0, 0), (1, 1), (2, 2), (3, 3), (4, 4), (5, 5), (6, 6), (7, 7)] := h1
    simp only [List.mem_cons, List.not_mem_nil, or_false] at g1
    rcases g1 with rfl | rfl | rfl | rfl | rfl | rfl | rfl | rfl
    · skip
      have g2 : c2 ∈ [(0, 0), (1, 1), (2, 2), (3, 3), (4, 4), (5, 5), (6, 6), (7, 7)] := h2
      simp only [List.mem_cons, List.not_mem_nil, or_false] at g2
      rcases g2 with rfl | rfl | rfl | rfl | rfl | rfl | rfl | rfl
      · skip
        exact p334 tl0 el0 K0
      · skip
        exact p335 tl0 el0 K0
      · skip
        exact p336 tl0 el0 K0
      · skip
        exact p337 tl0 el0 K0
      · skip
        exact p338 tl0 el0 K0
      · skip
        exact p339 tl0 el0 K0
      · skip
        exact p340 tl0 el0 K0
      · skip
        exact p341 tl0 el0 K0
    · skip
      have g2 : c2 ∈ [(0, 0), (1, 1), (2, 2), (3, 3), (4, 4), (5, 5), (6, 6), (7, 7)] := h2
      simp only [List.mem_cons, List.not_mem_nil, or_false] at g2
      rcases g2 with rfl | rfl | rfl | rfl | rfl | rfl | rfl | rfl
      · skip
        exact p342 tl0 el0 K0
      · skip
        exact p343 tl0 el0 K0
      · skip
        exact p344 tl0 el0 K0
      · skip
        exact p345 tl0 el0 K0
      · skip
        exact p346 tl0 el0 K0
      · skip
        exact p347 tl0 el0 K0
      · skip
        exact p348 tl0 el0 K0
      · skip
        exact p349 tl0 el0 K0
    · skip
      have g2 : c2 ∈ [(0, 0), (1, 1), (2, 2), (3, 3), (4, 4), (5, 5), (6, 6), (7, 7)] := h2
      simp only [List.mem_cons, List.not_mem_nil, or_false] at g2
      rcases g2 with rfl | rfl | rfl | rfl | rfl | rfl | rfl | rfl
      · skip
        exact p350 tl0 el0 K0
      · skip
        exact p351 tl0 el0 K0
      · skip
        exact p352 tl0 el0 K0
      · skip
        exact p353 tl0 el0 K0
      · skip
        exact p354 tl0 el0 K0
      · skip
        exact p355 tl0 el0 K0
      · skip
        exact p356 tl0 el0 K0
      · skip
        exact p357 tl0 el0 K0
    · skip
      have g2 : c2 ∈ [(0, 0), (1, 1), (2, 2), (3, 3), (4, 4), (5, 5), (6, 6), (7, 7)] := h2
      simp only [List.mem_cons, List.not_mem_nil, or_false] at g2
      rcases g2 with rfl | rfl | rfl | rfl | rfl | rfl | rfl | rfl
      · skip
        exact p358 tl0 el0 K0
      · skip
        exact p359 tl0 el0 K0
      · skip
        exact p360 tl0 el0 K0
      · skip
        exact p361 tl0 el0 K0
      · skip
        exact p362 tl0 el0 K0
      · skip
        exact p363 tl0 el0 K0
      · skip
        exact p364 tl0 el0 K0
      · skip
        exact p365 tl0 el0 K0
    · skip
      have g2 : c2 ∈ [(0, 0), (1, 1), (2, 2), (3, 3), (4, 4), (5, 5), (6, 6), (7, 7)] := h2
      simp only [List.mem_cons, List.not_mem_nil, or_false] at g2
      rcases g2 with rfl | rfl | rfl | rfl | rfl | rfl | rfl | rfl
      · skip
        exact p366 tl0 el0 K0
      · skip
        exact p367 tl0 el0 K0
      · skip
        exact p368 tl0 el0 K0
      · skip
        exact p369 tl0 el0 K0
      · skip
        exact p370 tl0 el0 K0
      · skip
        exact p371 tl0 el0 K0
      · skip
        exact p372 tl0 el0 K0
      · skip
        exact p373 tl0 el0 K0
    · skip
      have g2 : c2 ∈ [(0, 0), (1, 1), (2, 2), (3, 3), (4, 4), (5, 5), (6, 6), (7, 7)] := h2
      simp only [List.mem_cons, List.not_mem_nil, or_false] at g2
      rcases g2 with rfl | rfl | rfl | rfl | rfl | rfl | rfl | rfl
      · skip
        exact p374 tl0 el0 K0
      · skip
        exact p375 tl0 el0 K0
      · skip
        exact p376 tl0 el0 K0
      · skip
        exact p377 tl0 el0 K0
      · skip
        exact p378 tl0 el0 K0
      · skip
        exact p379 tl0 el0 K0
      · skip
        exact p380 tl0 el0 K0
      · skip
        exact p381 tl0 el0 K0
    · skip
      have g2 : c2 ∈ [(0, 0), (1, 1), (2, 2), (3, 3), (4, 4), (5, 5), (6, 6), (7, 7)] := h2
      simp only [List.mem_cons, List.not_mem_nil, or_false] at g2
      rcases g2 with rfl | rfl | rfl | rfl | rfl | rfl | rfl | rfl
      · skip
        exact p382 tl0 el0 K0
      · skip
        exact p383 tl0 el0 K0
      · skip
        exact p384 tl0 el0 K0
      · skip
        exact p385 tl0 el0 K0
      · skip
        exact p386 tl0 el0 K0
      · skip
        exact p387 tl0 el0 K0
      · skip
        exact p388 tl0 el0 K0
      · skip
        exact p389 tl0 el0 K0
    · skip
      have g2 : c2 ∈ [(0, 0), (1, 1), (2, 2), (3, 3), (4, 4), (5, 5), (6, 6), (7, 7)] := h2
      simp only [List.mem_cons, List.not_mem_nil, or_false] at g2
      rcases g2 with rfl | rfl | rfl | rfl | rfl | rfl | rfl | rfl
      · skip
        exact p390 tl0 el0 K0
      · skip
        exact p391 tl0 el0 K0
      · skip
        exact p392 tl0 el0 K0
      · skip
        exact p393 tl0 el0 K0
      · skip
        exact p394 tl0 el0 K0
      · skip
        exact p395 tl0 el0 K0
      · skip
        exact p396 tl0 el0 K0
      · skip
        exact p397 tl0 el0 K0
  · skip
    have g1 : c1 ∈ [(0, 0), (1, 1), (2, 2), (3, 3), (4, 4), (5, 5), (6, 6), (7, 7)] := h1
    simp only [List.mem_cons, List.not_mem_nil, or_false] at g1
    rcases g1 with rfl | rfl | rfl | rfl | rfl | rfl | rfl | rfl
    · skip
      have g2 : c2 ∈ [(0, 0), (1, 1), (2, 2), (3, 3), (4, 4), (5, 5), (6, 6), (7, 7)] := h2
      simp only [List.mem_cons, List.not_mem_nil, or_false] at g2
      rcases g2 with rfl | rfl | rfl | rfl | rfl | rfl | rfl | rfl
      · skip
        exact p398 tl0 el0 K0
      · skip
        exact p399 tl0 el0 K0
      · skip
        exact p400 tl0 el0 K0
      · skip
        exact p401 tl0 el0 K0
      · skip
        exact p402 tl0 el0 K0
      · skip
        exact p403 tl0 el0 K0
      · skip
        exact p404 tl0 el0 K0
      · skip
        exact p405 tl0 el0 K0
    · skip
      have g2 : c2 ∈ [(0, 0), (1, 1), (2, 2), (3, 3), (4, 4), (5, 5), (6, 6), (7, 7)] := h2
      simp only [List.mem_cons, List.not_mem_nil, or_false] at g2
      rcases g2 with rfl | rfl | rfl | rfl | rfl | rfl | rfl | rfl
      · skip
        exact p406 tl0 el0 K0
      · skip
        exact p407 tl0 el0 K0
      · skip
        exact p408 tl0 el0 K0
      · skip
        exact p409 tl0 el0 K0
      · skip
        exact p410 tl0 el0 K0
      · skip
        exact p411 tl0 el0 K0
      · skip
        exact p412 tl0 el0 K0
      · skip
        exact p413 tl0 el0 K0
    · skip
      have g2 : c2 ∈ [(0, 0), (1, 1), (2, 2), (3, 3), (4, 4), (5, 5), (6, 6), (7, 7)] := h2
      simp only [List.mem_cons, List.not_mem_nil, or_false] at g2
      rcases g2 with rfl | rfl | rfl | rfl | rfl | rfl | rfl | rfl
      · skip
        exact p414 tl0 el0 K0
      · skip
        exact p415 tl0 el0 K0
      · skip
        exact p416 tl0 el0 K0
      · skip
        exact p417 tl0 el0 K0
      · skip
        exact p418 tl0 el0 K0
      · skip
        exact p419 tl0 el0 K0
      · skip
        exact p420 tl0 el0 K0
      · skip
        exact p421 tl0 el0 K0
    · skip
      have g2 : c2 ∈ [(0, 0), (1, 1), (2, 2), (3, 3), (4, 4), (5, 5), (6, 6), (7, 7)] := h2
      simp only [List.mem_cons, List.not_mem_nil, or_false] at g2
      rcases g2 with rfl | rfl | rfl | rfl | rfl | rfl | rfl | rfl
      · skip
        exact p422 tl0 el0 K0
      · skip
        exact p423 tl0 el0 K0
      · skip
        exact p424 tl0 el0 K0
      · skip
        exact p425 tl0 el0 K0
      · skip
        exact p426 tl0 el0 K0
      · skip
        exact p427 tl0 el0 K0
      · skip
        exact p428 tl0 el0 K0
      · skip
        exact p429 tl0 el0 K0
    · skip
      have g2 : c2 ∈ [(0, 0), (1, 1), (2, 2), (3, 3), (4, 4), (5, 5), (6, 6), (7, 7)] := h2
      simp only [List.mem_cons, List.not_mem_nil, or_false] at g2
      rcases g2 with rfl | rfl | rfl | rfl | rfl | rfl | rfl | rfl
      · skip
        exact p430 tl0 el0 K0
      · skip
        exact p431 tl0 el0 K0
      · skip
        exact p432 tl0 el0 K0
      · skip
        exact p433 tl0 el0 K0
      · skip
        exact p434 tl0 el0 K0
      · skip
        exact p435 tl0 el0 K0
      · skip
        exact p436 tl0 el0 K0
      · skip
        exact p437 tl0 el0 K0
    · skip
      have g2 : c2 ∈ [(0, 0), (1, 1), (2, 2), (3, 3), (4, 4), (5, 5), (6, 6), (7, 7)] := h2
      simp only [List.mem_cons, List.not_mem_nil, or_false] at g2
      rcases g2 with rfl | rfl | rfl | rfl | rfl | rfl | rfl | rfl
      · skip
        exact p438 tl0 el0 K0
      · skip
        exact p439 tl0 el0 K0
      · skip
        exact p440 tl0 el0 K0
      · skip
        exact p441 tl0 el0 K0
      · skip
        exact p442 tl0 el0 K0
      · skip
        exact p443 tl0 el0 K0
      · skip
        exact p444 tl0 el0 K0
      · skip
        exact p445 tl0 el0 K0
    · skip
      have g2 : c2 ∈ [(0, 0), (1, 1), (2, 2), (3, 3), (4, 4), (5, 5), (6, 6), (7, 7)] := h2
      simp only [List.mem_cons, List.not_mem_nil, or_false] at g2
      rcases g2 with rfl | rfl | rfl | rfl | rfl | rfl | rfl | rfl
      · skip
        exact p446 tl0 el0 K0
      · skip
        exact p447 tl0 el0 K0
      · skip
        exact p448 tl0 el0 K0
      · skip
        exact p449 tl0 el0 K0
      · skip
        exact p450 tl0 el0 K0
      · skip
        exact p451 tl0 el0 K0
      · skip
        exact p452 tl0 el0 K0
      · skip
        exact p453 tl0 el0 K0
    · skip
      have g2 : c2 ∈ [(0, 0), (1, 1), (2, 2), (3, 3), (4, 4), (5, 5), (6, 6), (7, 7)] := h2
      simp only [List.mem_cons, List.not_mem_nil, or_false] at g2
      rcases g2 with rfl | rfl | rfl | rfl | rfl | rfl | rfl | rfl
      · skip
        exact p454 tl0 el0 K0
      · skip
        exact p455 tl0 el0 K0
      · skip
        exact p456 tl0 el0 K0
      · skip
        exact p457 tl0 el0 K0
      · skip
        exact p458 tl0 el0 K0
      · skip
        exact p459 tl0 el0 K0
      · skip
        exact p460 tl0 el0 K0
      · skip
        exact p461 tl0 el0 K0
theorem all6 (tl0 : List Value) (el0 K0 : Nat) : ((List.range' 4 1).all fun N0 => run N0 (.slice (some ⟨0, 0, none⟩) N0 (K0 + N0)) (heapOf [⟨intToks 0 N0 0 ++ tl0, el0, 2, 1⟩])) = true := by
  refine List.all_eq_true.2 fun N0 hN => ?_
  simp only [List.mem_range'_1] at hN
  obtain rfl : N0 = 4 := by omega
  exact lit4 tl0 el0 K0
theorem all7 (tl0 : List Value) (el0 K0 M0 : Nat) : run 4 (.slice (some ⟨0, 0, none⟩) (M0 + 5) (K0 + (M0 + 5))) (heapOf [⟨intToks 0 4 0 ++ tl0, el0, 2, 1⟩]) = true := by
  refine List.all_eq_true.2 fun c0 h0 => List.all_eq_true.2 fun c1 h1 => List.all_eq_true.2 fun c2 h2 => ?_
  have g0 : c0 ∈ [(0, 0), (1, 1), (2, 2), (3, 3), (4, 4), (5, 5)] := h0
  simp only [List.mem_cons, List.not_mem_nil, or_false] at g0
  rcases g0 with rfl | rfl | rfl | rfl | rfl | rfl
  · skip
    have g1 : c1 ∈ [(0, 0), (1, 1), (2, 2), (3, 3), (4, 4), (5, 5), (6, 6), (7, 7)] := h1
    simp only [List.mem_cons, List.not_mem_nil, or_false] at g1
    rcases g1 with rfl | rfl | rfl | rfl | rfl | rfl | rfl | rfl
    · skip
      have g2 : c2 ∈ [(0, 0), (1, 1), (2, 2), (3, 3), (4, 4), (5, 5), (6, 6), (7, 7)] := h2
      simp only [List.mem_cons, List.not_mem_nil, or_false] at g2
      rcases g2 with rfl | rfl | rfl | rfl | rfl | rfl | rfl | rfl
      · skip
        exact p462 tl0 el0 K0 M0
      · skip
        exact p463 tl0 el0 K0 M0
      · skip
        exact p464 tl0 el0 K0 M0
      · skip
        exact p465 tl0 el0 K0 M0
      · skip
        exact p466 tl0 el0 K0 M0
      · skip
        exact p467 tl0 el0 K0 M0
      · skip
        exact p468 tl0 el0 K0 M0
      · skip
        exact p469 tl0 el0 K0 M0
    · skip
      have g2 : c2 ∈ [(0, 0), (1, 1), (2, 2), (3, 3), (4, 4), (5, 5), (6, 6), (7, 7)] := h2
      simp only [List.mem_cons, List.not_mem_nil, or_false] at g2
      rcases g2 with rfl | rfl | rfl | rfl | rfl | rfl | rfl | rfl
      · skip
        exact p470 tl0 el0 K0 M0
      · skip
        exact p471 tl0 el0 K0 M0
      · skip
        exact p472 tl0 el0 K0 M0
      · skip
        exact p473 tl0 el0 K0 M0
      · skip
        exact p474 tl0 el0 K0 M0
      · skip
        exact p475 tl0 el0 K0 M0
      · skip
        exact p476 tl0 el0 K0 M0
      · skip
        exact p477 tl0 el0 K0 M0
    · skip
      have g2 : c2 ∈ [(0, 0), (1, 1), (2, 2), (3, 3), (4, 4), (5, 5), (6, 6), (7, 7)] := h2
      simp only [List.mem_cons, List.not_mem_nil, or_false] at g2
      rcases g2 with rfl | rfl | rfl | rfl | rfl | rfl | rfl | rfl
      · skip
        exact p478 tl0 el0 K0 M0
      · skip
        exact p479 tl0 el0 K0 M0
      · skip
        exact p480 tl0 el0 K0 M0
      · skip
        exact p481 tl0 el0 K0 M0
      · skip
        exact p482 tl0 el0 K0 M0
      · skip
        exact p483 tl0 el0 K0 M0
      · skip
        exact p484 tl0 el0 K0 M0
      · skip
        exact p485 tl0 el0 K0 M0
    · skip
      have g2 : c2 ∈ [(0, 0), (1, 1), (2, 2), (3, 3), (4, 4), (5, 5), (6, 6), (7, 7)] := h2
      simp only [List.mem_cons, List.not_mem_nil, or_false] at g2
      rcases g2 with rfl | rfl | rfl | rfl | rfl | rfl | rfl | rfl
      · skip
        exact p486 tl0 el0 K0 M0
      · skip
        exact p487 tl0 el0 K0 M0
      · skip
        exact p488 tl0 el0 K0 M0
      · skip
        exact p489 tl0 el0 K0 M0
      · skip
        exact p490 tl0 el0 K0 M0
      · skip
        exact p491 tl0 el0 K0 M0
      · skip
        exact p492 tl0 el0 K0 M0
      · skip
        exact p493 tl0 el0 K0 M0
    · skip
      have g2 : c2 ∈ [(0, 0), (1, 1), (2, 2), (3, 3), (4, 4), (5, 5), (6, 6), (7, 7)] := h2
      simp only [List.mem_cons, List.not_mem_nil, or_false] at g2
      rcases g2 with rfl | rfl | rfl | rfl | rfl | rfl | rfl | rfl
      · skip
        exact p494 tl0 el0 K0 M0
      · skip
        exact p495 tl0 el0 K0 M0
      · skip
        exact p496 tl0 el0 K0 M0
      · skip
        exact p497 tl0 el0 K0 M0
      · skip
        exact p498 tl0 el0 K0 M0
      · skip
        exact p499 tl0 el0 K0 M0
      · skip
        exact p500 tl0 el0 K0 M0
      · skip
        exact p501 tl0 el0 K0 M0
    · skip
      have g2 : c2 ∈ [(0, 0), (1, 1), (2, 2), (3, 3), (4, 4), (5, 5), (6, 6), (7, 7)] := h2
      simp only [List.mem_cons, List.not_mem_nil, or_false] at g2
      rcases g2 with rfl | rfl | rfl | rfl | rfl | rfl | rfl | rfl
      · skip
        exact p502 tl0 el0 K0 M0
      · skip
        exact p503 tl0 el0 K0 M0
      · skip
        exact p504 tl0 el0 K0 M0
      · skip
        exact p505 tl0 el0 K0 M0
      · skip
        exact p506 tl0 el0 K0 M0
      · skip
        exact p507 tl0 el0 K0 M0
      · skip
        exact p508 tl0 el0 K0 M0
      · skip
        exact p509 tl0 el0 K0 M0
    · skip
      have g2 : c2 ∈ [(0, 0), (1, 1), (2, 2), (3, 3), (4, 4), (5, 5), (6, 6), (7, 7)] := h2
      simp only [List.mem_cons, List.not_mem_nil, or_false] at g2
      rcases g2 with rfl | rfl | rfl | rfl | rfl | rfl | rfl | rfl
      · skip
        exact p510 tl0 el0 K0 M0
      · skip
        exact p511 tl0 el0 K0 M0
      · skip
        exact p512 tl0 el0 K0 M0
      · skip
        exact p513 tl0 el0 K0 M0
      · skip
        exact p514 tl0 el0 K0 M0
      · skip
        exact p515 tl0 el0 K0 M0
      · skip
        exact p516 tl0 el0 K0 M0
      · skip
        exact p517 tl0 el0 K0 M0
    · skip
      have g2 : c2 ∈ [(0, 0), (1, 1), (2, 2), (3, 3), (4, 4), (5, 5), (6, 6), (7, 7)] := h2
      simp only [List.mem_cons, List.not_mem_nil, or_false] at g2
      rcases g2 with rfl | rfl | rfl | rfl | rfl | rfl | rfl | rfl
      · skip
        exact p518 tl0 el0 K0 M0
      · skip
        exact p519 tl0 el0 K0 M0
      · skip
        exact p520 tl0 el0 K0 M0
      · skip
        exact p521 tl0 el0 K0 M0
      · skip
        exact p522 tl0 el0 K0 M0
      · skip
        exact p523 tl0 el0 K0 M0
      · skip
        exact p524 tl0 el0 K0 M0
      · skip
        exact p525 tl0 el0 K0 M0
  · skip
    have g1 : c1 ∈ [(0, 0), (1, 1), (2, 2), (3, 3), (4, 4), (5, 5), (6, 6), (7, 7)] := h1
    simp only [List.mem_cons, List.not_mem_nil, or_false] at g1
    rcases g1 with rfl | rfl | rfl | rfl | rfl | rfl | rfl | rfl
    · skip
      have g2 : c2 ∈ [(0, 0), (1, 1), (2, 2), (3, 3), (4, 4), (5, 5), (6, 6), (7, 7)] := h2
      simp only [List.mem_cons, List.not_mem_nil, or_false] at g2
      rcases g2 with rfl | rfl | rfl | rfl | rfl | rfl | rfl | rfl
      · skip
        exact p526 tl0 el0 K0 M0
      · skip
        exact p527 tl0 el0 K0 M0
      · skip
        exact p528 tl0 el0 K0 M0
      · skip
        exact p529 tl0 el0 K0 M0
      · skip
        exact p530 tl0 el0 K0 M0
      · skip
        exact p531 tl0 el0 K0 M0
      · skip
        exact p532 tl0 el0 K0 M0
      · skip
        exact p533 tl0 el0 K0 M0
    · skip
      have g2 : c2 ∈ [(0, 0), (1, 1), (2, 2), (3, 3), (4, 4), (5, 5), (6, 6), (7, 7)] := h2
      simp only [List.mem_cons, List.not_mem_nil, or_false] at g2
      rcases g2 with rfl | rfl | rfl | rfl | rfl | rfl | rfl | rfl
      · skip
        exact p534 tl0 el0 K0 M0
      · skip
        exact p535 tl0 el0 K0 M0
      · skip
        exact p536 tl0 el0 K0 M0
      · skip
        exact p537 tl0 el0 K0 M0
      · skip
        exact p538 tl0 el0 K0 M0
      · skip
        exact p539 tl0 el0 K0 M0
      · skip
        exact p540 tl0 el0 K0 M0
      · skip
        exact p541 tl0 el0 K0 M0
    · skip
      have g2 : c2 ∈ [(0, 0), (1, 1), (2, 2), (3, 3), (4, 4), (5, 5), (6, 6), (7, 7)] := h2
      simp only [List.mem_cons, List.not_mem_nil, or_false] at g2
      rcases g2 with rfl | rfl | rfl | rfl | rfl | rfl | rfl | rfl
      · skip
        exact p542 tl0 el0 K0 M0
      · skip
        exact p543 tl0 el0 K0 M0
      · skip
        exact p544 tl0 el0 K0 M0
      · skip
        exact p545 tl0 el0 K0 M0
      · skip
        exact p546 tl0 el0 K0 M0
      · skip
        exact p547 tl0 el0 K0 M0
      · skip
        exact p548 tl0 el0 K0 M0
      · skip
        exact p549 tl0 el0 K0 M0
    · skip
      have g2 : c2 ∈ [(0, 0), (1, 1), (2, 2), (3, 3), (4, 4), (5, 5), (6, 6), (7, 7)] := h2
      simp only [List.mem_cons, List.not_mem_nil, or_false] at g2
      rcases g2 with rfl | rfl | rfl | rfl | rfl | rfl | rfl | rfl
      · skip
        exact p550 tl0 el0 K0 M0
      · skip
        exact p551 tl0 el0 K0 M0
      · skip
        exact p552 tl0 el0 K0 M0
      · skip
        exact p553 tl0 el0 K0 M0
      · skip
        exact p554 tl0 el0 K0 M0
      · skip
        exact p555 tl0 el0 K0 M0
      · skip
        exact p556 tl0 el0 K0 M0
      · skip
        exact p557 tl0 el0 K0 M0
    · skip
      have g2 : c2 ∈ [(0, 0), (1, 1), (2, 2), (3, 3), (4, 4), (5, 5), (6, 6), (7, 7)] := h2
      simp only [List.mem_cons, List.not_mem_nil, or_false] at g2
      rcases g2 with rfl | rfl | rfl | rfl | rfl | rfl | rfl | rfl
      · skip
        exact p558 tl0 el0 K0 M0
      · skip
        exact p559 tl0 el0 K0 M0
      · skip
        exact p560 tl0 el0 K0 M0
      · skip
        exact p561 tl0 el0 K0 M0
      · skip
        exact p562 tl0 el0 K0 M0
      · skip
        exact p563 tl0 el0 K0 M0
      · skip
        exact p564 tl0 el0 K0 M0
      · skip
        exact p565 tl0 el0 K0 M0
    · skip
      have g2 : c2 ∈ [(0, 0), (1, 1), (2, 2), (3, 3), (4, 4), (5, 5), (6, 6), (7, 7)] := h2
      simp only [List.mem_cons, List.not_mem_nil, or_false] at g2
      rcases g2 with rfl | rfl | rfl | rfl | rfl | rfl | rfl | rfl
      · skip
        exact p566 tl0 el0 K0 M0
      · skip
        exact p567 tl0 el0 K0 M0
      · skip
        exact p568 tl0 el0 K0 M0
      · skip
        exact p569 tl0 el0 K0 M0
      · skip
        exact p570 tl0 el0 K0 M0
      · skip
        exact p571 tl0 el0 K0 M0
      · skip
        exact p572 tl0 el0 K0 M0
      · skip
        exact p573 tl0 el0 K0 M0
    · skip
      have g2 : c2 ∈ [(0, 0), (1, 1), (2, 2), (3, 3), (4, 4), (5, 5), (6, 6), (7, 7)] := h2
      simp only [List.mem_cons, List.not_mem_nil, or_false] at g2
      rcases g2 with rfl | rfl | rfl | rfl | rfl | rfl | rfl | rfl
      · skip
        exact p574 tl0 el0 K0 M0
      · skip
        exact p575 tl0 el0 K0 M0
      · skip
        exact p576 tl0 el0 K0 M0
      · skip
        exact p577 tl0 el0 K0 M0
      · skip
        exact p578 tl0 el0 K0 M0
      · skip
        exact p579 tl0 el0 K0 M0
      · skip
        exact p580 tl0 el0 K0 M0
      · skip
        exact p581 tl0 el0 K0 M0
    · skip
      have g2 : c2 ∈ [(0, 0), (1, 1), (2, 2), (3, 3), (4, 4), (5, 5), (6, 6), (7, 7)] := h2
      simp only [List.mem_cons, List.not_mem_nil, or_false] at g2
      rcases g2 with rfl | rfl | rfl | rfl | rfl | rfl | rfl | rfl
      · skip
        exact p582 tl0 el0 K0 M0
      · skip
        exact p583 tl0 el0 K0 M0
      · skip
        exact p584 tl0 el0 K0 M0
      · skip
        exact p585 tl0 el0 K0 M0
      · skip
        exact p586 tl0 el0 K0 M0
      · skip
        exact p587 tl0 el0 K0 M0
      · skip
        exact p588 tl0 el0 K0 M0
      · skip
        exact p589 tl0 el0 K0 M0
  · skip
    have g1 : c1 ∈ [(0, 0), (1, 1), (2, 2), (3, 3), (4, 4), (5, 5), (6, 6), (7, 7)] := h1
    simp only [List.mem_cons, List.not_mem_nil, or_false] at g1
    rcases g1 with rfl | rfl | rfl | rfl | rfl | rfl | rfl | rfl
    · skip
      have g2 : c2 ∈ [(0, 0), (1, 1), (2, 2), (3, 3), (4, 4), (5, 5), (6, 6), (7, 7)] := h2
      simp only [List.mem_cons, List.not_mem_nil, or_false] at g2
      rcases g2 with rfl | rfl | rfl | rfl | rfl | rfl | rfl | rfl
      · skip
        exact p590 tl0 el0 K0 M0
      · skip
        exact p591 tl0 el0 K0 M0
      · skip
        exact p592 tl0 el0 K0 M0
      · skip
        exact p593 tl0 el0 K0 M0
      · skip
        exact p594 tl0 el0 K0 M0
      · skip
        exact p595 tl0 el0 K0 M0
      · skip
        exact p596 tl0 el0 K0 M0
      · skip
        exact p597 tl0 el0 K0 M0
    · skip
      have g2 : c2 ∈ [(0, 0), (1, 1), (2, 2), (3, 3), (4, 4), (5, 5), (6, 6), (7, 7)] := h2
      simp only [List.mem_cons, List.not_mem_nil, or_false] at g2
      rcases g2 with rfl | rfl | rfl | rfl | rfl | rfl | rfl | rfl
      · skip
        exact p598 tl0 el0 K0 M0
      · skip
        exact p599 tl0 el0 K0 M0
      · skip
        exact p600 tl0 el0 K0 M0
      · skip
        exact p601 tl0 el0 K0 M0
      · skip
        exact p602 tl0 el0 K0 M0
      · skip
        exact p603 tl0 el0 K0 M0
      · skip
        exact p604 tl0 el0 K0 M0
      · skip
        exact p605 tl0 el0 K0 M0
    · skip
      have g2 : c2 ∈ [(0, 0), (1, 1), (2, 2), (3, 3), (4, 4), (5, 5), (6, 6), (7, 7)] := h2
      simp only [List.mem_cons, List.not_mem_nil, or_false] at g2
      rcases g2 with rfl | rfl | rfl | rfl | rfl | rfl | rfl | rfl
      · skip
        exact p606 tl0 el0 K0 M0
      · skip
        exact p607 tl0 el0 K0 M0
      · skip
        exact p608 tl0 el0 K0 M0
      · skip
        exact p609 tl0 el0 K0 M0
      · skip
        exact p610 tl0 el0 K0 M0
      · skip
        exact p611 tl0 el0 K0 M0
      · skip
        exact p612 tl0 el0 K0 M0
      · skip
        exact p613 tl0 el0 K0 M0
    · skip
      have g2 : c2 ∈ [(0, 0), (1, 1), (2, 2), (3, 3), (4, 4), (5, 5), (6, 6), (7, 7)] := h2
      simp only [List.mem_cons, List.not_mem_nil, or_false] at g2
      rcases g2 with rfl | rfl | rfl | rfl | rfl | rfl | rfl | rfl
      · skip
        exact p614 tl0 el0 K0 M0
      · skip
        exact p615 tl0 el0 K0 M0
      · skip
        exact p616 tl0 el0 K0 M0
      · skip
        exact p617 tl0 el0 K0 M0
      · skip
        exact p618 tl0 el0 K0 M0
      · skip
        exact p619 tl0 el0 K0 M0
      · skip
        exact p620 tl0 el0 K0 M0
      · skip
        exact p621 tl0 el0 K0 M0
    · skip
      have g2 : c2 ∈ [(0, 0), (1, 1), (2, 2), (3, 3), (4, 4), (5, 5), (6, 6), (7, 7)] := h2
      simp only [List.mem_cons, List.not_mem_nil, or_false] at g2
      rcases g2 with rfl | rfl | rfl | rfl | rfl | rfl | rfl | rfl
      · skip
        exact p622 tl0 el0 K0 M0
      · skip
        exact p623 tl0 el0 K0 M0
      · skip
        exact p624 tl0 el0 K0 M0
      · skip
        exact p625 tl0 el0 K0 M0
      · skip
        exact p626 tl0 el0 K0 M0
      · skip
        exact p627 tl0 el0 K0 M0
      · skip
        exact p628 tl0 el0 K0 M0
      · skip
        exact p629 tl0 el0 K0 M0
    · skip
      have g2 : c2 ∈ [(0, 0), (1, 1), (2, 2), (3, 3), (4, 4), (5, 5), (6, 6), (7, 7)] := h2
      simp only [List.mem_cons, List.not_mem_nil, or_false] at g2
      rcases g2 with rfl | rfl | rfl | rfl | rfl | rfl | rfl | rfl
      · skip
        exact p630 tl0 el0 K0 M0
      · skip
        exact p631 tl0 el0 K0 M0
      · skip
        exact p632 tl0 el0 K0 M0
      · skip
        exact p633 tl0 el0 K0 M0
      · skip
        exact p634 tl0 el0 K0 M0
      · skip
        exact p635 tl0 el0 K0 M0
      · skip
        exact p636 tl0 el0 K0 M0
      · skip
        exact p637 tl0 el0 K0 M0
    · skip
      have g2 : c2 ∈ [(0, 0), (1, 1), (2, 2), (3, 3), (4, 4), (5, 5), (6, 6), (7, 7)] := h2
      simp only [List.mem_cons, List.not_mem_nil, or_false] at g2
      rcases g2 with rfl | rfl | rfl | rfl | rfl | rfl | rfl | rfl
      · skip
        exact p638 tl0 el0 K0 M0
      · skip
        exact p639 tl0 el0 K0 M0
      · skip
        exact p640 tl0 el0 K0 M0
      · skip
        exact p641 tl0 el0 K0 M0
      · skip
        exact p642 tl0 el0 K0 M0
      · skip
        exact p643 tl0 el0 K0 M0
      · skip
        exact p644 tl0 el0 K0 M0
      · skip
        exact p645 tl0 el0 K0 M0
    · skip
      have g2 : c2 ∈ [(0, 0), (1, 1), (2, 2), (3, 3), (4, 4), (5, 5), (6, 6), (7, 7)] := h2
      simp only [List.mem_cons, List.not_mem_nil, or_false] at g2
      rcases g2 with rfl | rfl | rfl | rfl | rfl | rfl | rfl | rfl
      · skip
        exact p646 tl0 el0 K0 M0
      · skip
        exact p647 tl0 el0 K0 M0
      · skip
        exact p648 tl0 el0 K0 M0
      · skip
        exact p649 tl0 el0 K0 M0
      · skip
        exact p650 tl0 el0 K0 M0
      · skip
        exact p651 tl0 el0 K0 M0
      · skip
        exact p652 tl0 el0 K0 M0
      · skip
        exact p653 tl0 el0 K0 M0
  · skip
    have g1 : c1 ∈ [(0, 0), (1, 1), (2, 2), (3, 3), (4, 4), (5, 5), (6, 6), (7, 7)] := h1
    simp only [List.mem_cons, List.not_mem_nil, or_false] at g1
    rcases g1 with rfl | rfl | rfl | rfl | rfl | rfl | rfl | rfl
    · skip
      have g2 : c2 ∈ [(0, 0), (1, 1), (2, 2), (3, 3), (4, 4), (5, 5), (6, 6), (7, 7)] := h2
      simp only [List.mem_cons, List.not_mem_nil, or_false] at g2
      rcases g2 with rfl | rfl | rfl | rfl | rfl | rfl | rfl | rfl
      · skip
        exact p654 tl0 el0 K0 M0
      · skip
        exact p655 tl0 el0 K0 M0
      · skip
        exact p656 tl0 el0 K0 M0
      · skip
        exact p657 tl0 el0 K0 M0
      · skip
        exact p658 tl0 el0 K0 M0
      · skip
        exact p659 tl0 el0 K0 M0
      · skip
        exact p660 tl0 el0 K0 M0
      · skip
        exact p661 tl0 el0 K0 M0
    · skip
      have g2 : c2 ∈ [(0, 0), (1, 1), (2, 2), (3, 3), (4, 4), (5, 5), (6, 6), (7, 7)] := h2
      simp only [List.mem_cons, List.not_mem_nil, or_false] at g2
      rcases g2 with rfl | rfl | rfl | rfl | rfl | rfl | rfl | rfl
      · skip
        exact p662 tl0 el0 K0 M0
      · skip
        exact p663 tl0 el0 K0 M0
      · skip
        exact p664 tl0 el0 K0 M0
      · skip
        exact p665 tl0 el0 K0 M0
      · skip
        exact p666 tl0 el0 K0 M0
      · skip
        exact p667 tl0 el0 K0 M0
      · skip
        exact p668 tl0 el0 K0 M0
      · skip
        exact p669 tl0 el0 K0 M0
    · skip
      have g2 : c2 ∈ [(0, 0), (1, 1), (2, 2), (3, 3), (4, 4), (5, 5), (6, 6), (7, 7)] := h2
      simp only [List.mem_cons, List.not_mem_nil, or_false] at g2
      rcases g2 with rfl | rfl | rfl | rfl | rfl | rfl | rfl | rfl
      · skip
        exact p670 tl0 el0 K0 M0
      · skip
        exact p671 tl0 el0 K0 M0
      · skip
        exact p672 tl0 el0 K0 M0
      · skip
        exact p673 tl0 el0 K0 M0
      · skip
        exact p674 tl0 el0 K0 M0
      · skip
        exact p675 tl0 el0 K0 M0
      · skip
        exact p676 tl0 el0 K0 M0
      · skip
        exact p677 tl0 el0 K0 M0
    · skip
      have g2 : c2 ∈ [(0, 0), (1, 1), (2, 2), (3, 3), (4, 4), (5, 5), (6, 6), (7, 7)] := h2
      simp only [List.mem_cons, List.not_mem_nil, or_false] at g2
      rcases g2 with rfl | rfl | rfl | rfl | rfl | rfl | rfl | rfl
      · skip
        exact p678 tl0 el0 K0 M0
      · skip
        exact p679 tl0 el0 K0 M0
      · skip
        exact p680 tl0 el0 K0 M0
      · skip
        exact p681 tl0 el0 K0 M0
      · skip
        exact p682 tl0 el0 K0 M0
      · skip
        exact p683 tl0 el0 K0 M0
      · skip
        exact p684 tl0 el0 K0 M0
      · skip
        exact p685 tl0 el0 K0 M0
    · skip
      have g2 : c2 ∈ [(0, 0), (1, 1), (2, 2), (3, 3), (4, 4), (5, 5), (6, 6), (7, 7)] := h2
      simp only [List.mem_cons, List.not_mem_nil, or_false] at g2
      rcases g2 with rfl | rfl | rfl | rfl | rfl | rfl | rfl | rfl
      · skip
        exact p686 tl0 el0 K0 M0
      · skip
        exact p687 tl0 el0 K0 M0
      · skip
        exact p688 tl0 el0 K0 M0
      · skip
        exact p689 tl0 el0 K0 M0
      · skip
        exact p690 tl0 el0 K0 M0
      · skip
        exact p691 tl0 el0 K0 M0
      · skip
        exact p692 tl0 el0 K0 M0
      · skip
        exact p693 tl0 el0 K0 M0
    · skip
      have g2 : c2 ∈ [(0, 0), (1, 1), (2, 2), (3, 3), (4, 4), (5, 5), (6, 6), (7, 7)] := h2
      simp only [List.mem_cons, List.not_mem_nil, or_false] at g2
      rcases g2 with rfl | rfl | rfl | rfl | rfl | rfl | rfl | rfl
      · skip
        exact p694 tl0 el0 K0 M0
      · skip
        exact p695 tl0 el0 K0 M0
      · skip
        exact p696 tl0 el0 K0 M0
      · skip
        exact p697 tl0 el0 K0 M0
      · skip
        exact p698 tl0 el0 K0 M0
      · skip
        exact p699 tl0 el0 K0 M0
      · skip
        exact p700 tl0 el0 K0 M0
      · skip
        exact p701 tl0 el0 K0 M0
    · skip
      have g2 : c2 ∈ [(0, 0), (1, 1), (2, 2), (3, 3), (4, 4), (5, 5), (6, 6), (7, 7)] := h2
      simp only [List.mem_cons, List.not_mem_nil, or_false] at g2
      rcases g2 with rfl | rfl | rfl | rfl | rfl | rfl | rfl | rfl
      · skip
        exact p702 tl0 el0 K0 M0
      · skip
        exact p703 tl0 el0 K0 M0
      · skip
        exact p704 tl0 el0 K0 M0
      · skip
        exact p705 tl0 el0 K0 M0
      · skip
        exact p706 tl0 el0 K0 M0
      · skip
        exact p707 tl0 el0 K0 M0
      · skip
        exact p708 tl0 el0 K0 M0
      · skip
        exact p709 tl0 el0 K0 M0
    · skip
      have g2 : c2 ∈ [(0, 0), (1, 1), (2, 2), (3, 3), (4, 4), (5, 5), (6, 6), (7, 7)] := h2
      simp only [List.mem_cons, List.not_mem_nil, or_false] at g2
      rcases g2 with rfl | rfl | rfl | rfl | rfl | rfl | rfl | rfl
      · skip
        exact p710 tl0 el0 K0 M0
      · skip
        exact p711 tl0 el0 K0 M0
      · skip
        exact p712 tl0 el0 K0 M0
      · skip
        exact p713 tl0 el0 K0 M0
      · skip
        exact p714 tl0 el0 K0 M0
      · skip
        exact p715 tl0 el0 K0 M0
      · skip
        exact p716 tl0 el0 K0 M0
      · skip
        exact p717 tl0 el0 K0 M0
  · skip
    have g1 : c1 ∈ [(0, 0), (1, 1), (2, 2), (3, 3), (4, 4), (5, 5), (6, 6), (7, 7)] := h1
    simp only [List.mem_cons, List.not_mem_nil, or_false] at g1
    rcases g1 with rfl | rfl | rfl | rfl | rfl | rfl | rfl | rfl
    · skip
      have g2 : c2 ∈ [(0, 0), (1, 1), (2, 2), (3, 3), (4, 4), (5, 5), (6, 6), (7, 7)] := h2
      simp only [List.mem_cons, List.not_mem_nil, or_false] at g2
      rcases g2 with rfl | rfl | rfl | rfl | rfl | rfl | rfl | rfl
      · skip
        exact p718 tl0 el0 K0 M0
      · skip
        exact p719 tl0 el0 K0 M0
      · skip
        exact p720 tl0 el0 K0 M0
      · skip
        exact p721 tl0 el0 K0 M0
      · skip
        exact p722 tl0 el0 K0 M0
      · skip
        exact p723 tl0 el0 K0 M0
      · skip
        exact p724 tl0 el0 K0 M0
      · skip
        exact p725 tl0 el0 K0 M0
    · skip
      have g2 : c2 ∈ [(0, 0), (1, 1), (2, 2), (3, 3), (4, 4), (5, 5), (6, 6), (7, 7)] := h2
      simp only [List.mem_cons, List.not_mem_nil, or_false] at g2
      rcases g2 with rfl | rfl | rfl | rfl | rfl | rfl | rfl | rfl
      · skip
        exact p726 tl0 el0 K0 M0
      · skip
        exact p727 tl0 el0 K0 M0
      · skip
        exact p728 tl0 el0 K0 M0
      · skip
        exact p729 tl0 el0 K0 M0
      · skip
        exact p730 tl0 el0 K0 M0
      · skip
        exact p731 tl0 el0 K0 M0
      · skip
        exact p732 tl0 el0 K0 M0
      · skip
        exact p733 tl0 el0 K0 M0
    · skip
      have g2 : c2 ∈ [(0, 0), (1, 1), (2, 2), (3, 3), (4, 4), (5, 5), (6, 6), (7, 7)] := h2
      simp only [List.mem_cons, List.not_mem_nil, or_false] at g2
      rcases g2 with rfl | rfl | rfl | rfl | rfl | rfl | rfl | rfl
      · skip
        exact p734 tl0 el0 K0 M0
      · skip
        exact p735 tl0 el0 K0 M0
      · skip
        exact p736 tl0 el0 K0 M0
      · skip
        exact p737 tl0 el0 K0 M0
      · skip
        exact p738 tl0 el0 K0 M0
      · skip
        exact p739 tl0 el0 K0 M0
      · skip
        exact p740 tl0 el0 K0 M0
      · skip
        exact p741 tl0 el0 K0 M0
    · skip
      have g2 : c2 ∈ [(0, 0), (1, 1), (2, 2), (3, 3), (4, 4), (5, 5), (6, 6), (7, 7)] := h2
      simp only [List.mem_cons, List.not_mem_nil, or_false] at g2
      rcases g2 with rfl | rfl | rfl | rfl | rfl | rfl | rfl | rfl
      · skip
        exact p742 tl0 el0 K0 M0
      · skip
        exact p743 tl0 el0 K0 M0
      · skip
        exact p744 tl0 el0 K0 M0
      · skip
        exact p745 tl0 el0 K0 M0
      · skip
        exact p746 tl0 el0 K0 M0
      · skip
        exact p747 tl0 el0 K0 M0
      · skip
        exact p748 tl0 el0 K0 M0
      · skip
        exact p749 tl0 el0 K0 M0
    · skip
      have g2 : c2 ∈ [(0, 0), (1, 1), (2, 2), (3, 3), (4, 4), (5, 5), (6, 6), (7, 7)] := h2
      simp only [List.mem_cons, List.not_mem_nil, or_false] at g2
      rcases g2 with rfl | rfl | rfl | rfl | rfl | rfl | rfl | rfl
      · skip
        exact p750 tl0 el0 K0 M0
      · skip
        exact p751 tl0 el0 K0 M0
      · skip
        exact p752 tl0 el0 K0 M0
      · skip
        exact p753 tl0 el0 K0 M0
      · skip
        exact p754 tl0 el0 K0 M0
      · skip
        exact p755 tl0 el0 K0 M0
      · skip
        exact p756 tl0 el0 K0 M0
      · skip
        exact p757 tl0 el0 K0 M0
    · skip
      have g2 : c2 ∈ [(0, 0), (1, 1), (2, 2), (3, 3), (4, 4), (5, 5), (6, 6), (7, 7)] := h2
      simp only [List.mem_cons, List.not_mem_nil, or_false] at g2
      rcases g2 with rfl | rfl | rfl | rfl | rfl | rfl | rfl | rfl
      · skip
        exact p758 tl0 el0 K0 M0
      · skip
        exact p759 tl0 el0 K0 M0
      · skip
        exact p760 tl0 el0 K0 M0
      · skip
        exact p761 tl0 el0 K0 M0
      · skip
        exact p762 tl0 el0 K0 M0
      · skip
        exact p763 tl0 el0 K0 M0
      · skip
        exact p764 tl0 el0 K0 M0
      · skip
        exact p765 tl0 el0 K0 M0
    · skip
      have g2 : c2 ∈ [(0, 0), (1, 1), (2, 2), (3, 3), (4, 4), (5, 5), (6, 6), (7, 7)] := h2
      simp only [List.mem_cons, List.not_mem_nil, or_false] at g2
      rcases g2 with rfl | rfl | rfl | rfl | rfl | rfl | rfl | rfl
      · skip
        exact p766 tl0 el0 K0 M0
      · skip
        exact p767 tl0 el0 K0 M0
      · skip
        exact p768 tl0 el0 K0 M0
      · skip
        exact p769 tl0 el0 K0 M0
      · skip
        exact p770 tl0 el0 K0 M0
      · skip
        exact p771 tl0 el0 K0 M0
      · skip
        exact p772 tl0 el0 K0 M0
      · skip
        exact p773 tl0 el0 K0 M0
    · skip
      have g2 : c2 ∈ [(0, 0), (1, 1), (2, 2), (3, 3), (4, 4), (5, 5), (6, 6), (7, 7)] := h2
      simp only [List.mem_cons, List.not_mem_nil, or_false] at g2
      rcases g2 with rfl | rfl | rfl | rfl | rfl | rfl | rfl | rfl
      · skip
        exact p774 tl0 el0 K0 M0
      · skip
        exact p775 tl0 el0 K0 M0
      · skip
        exact p776 tl0 el0 K0 M0
      · skip
        exact p777 tl0 el0 K0 M0
      · skip
        exact p778 tl0 el0 K0 M0
      · skip
        exact p779 tl0 el0 K0 M0
      · skip
        exact p780 tl0 el0 K0 M0
      · skip
        exact p781 tl0 el0 K0 M0
  · skip
    have g1 : c1 ∈ [(0, 0), (1, 1), (2, 2), (3, 3), (4, 4), (5, 5), (6, 6), (7, 7)] := h1
    simp only [List.mem_cons, List.not_mem_nil, or_false] at g1
    rcases g1 with rfl | rfl | rfl | rfl | rfl | rfl | rfl | rfl
    · skip
      have g2 : c2 ∈ [(0, 0), (1, 1), (2, 2), (3, 3), (4, 4), (5, 5), (6, 6), (7, 7)] := h2
      simp only [List.mem_cons, List.not_mem_nil, or_false] at g2
      rcases g2 with rfl | rfl | rfl | rfl | rfl | rfl | rfl | rfl
      · skip
        exact p782 tl0 el0 K0 M0
      · skip
        exact p783 tl0 el0 K0 M0
      · skip
        exact p784 tl0 el0 K0 M0
      · skip
        exact p785 tl0 el0 K0 M0
      · skip
        exact p786 tl0 el0 K0 M0
      · skip
        exact p787 tl0 el0 K0 M0
      · skip
        exact p788 tl0 el0 K0 M0
      · skip
        exact p789 tl0 el0 K0 M0
    · skip
      have g2 : c2 ∈ [(0, 0), (1, 1), (2, 2), (3, 3), (4, 4), (5, 5), (6, 6), (7, 7)] := h2
      simp only [List.mem_cons, List.not_mem_nil, or_false] at g2
      rcases g2 with rfl | rfl | rfl | rfl | rfl | rfl | rfl | rfl
      · skip
        exact p790 tl0 el0 K0 M0
      · skip
        exact p791 tl0 el0 K0 M0
      · skip
        exact p792 tl0 el0 K0 M0
      · skip
        exact p793 tl0 el0 K0 M0
      · skip
        exact p794 tl0 el0 K0 M0
      · skip
        exact p795 tl0 el0 K0 M0
      · skip
        exact p796 tl0 el0 K0 M0
      · skip
        exact p797 tl0 el0 K0 M0
    · skip
      have g2 : c2 ∈ [(0, 0), (1, 1), (2, 2), (3, 3), (4, 4), (5, 5), (6, 6), (7, 7)] := h2
      simp only [List.mem_cons, List.not_mem_nil, or_false] at g2
      rcases g2 with rfl | rfl | rfl | rfl | rfl | rfl | rfl | rfl
      · skip
        exact p798 tl0 el0 K0 M0
      · skip
        exact p799 tl0 el0 K0 M0
      · skip
        exact p800 tl0 el0 K0 M0
      · skip
        exact p801 tl0 el0 K0 M0
      · skip
        exact p802 tl0 el0 K0 M0
      · skip
        exact p803 tl0 el0 K0 M0
      · skip
        exact p804 tl0 el0 K0 M0
      · skip
        exact p805 tl0 el0 K0 M0
    · skip
      have g2 : c2 ∈ [(0, 0), (1, 1), (2, 2), (3, 3), (4, 4), (5, 5), (6, 6), (7, 7)] := h2
      simp only [List.mem_cons, List.not_mem_nil, or_false] at g2
      rcases g2 with rfl | rfl | rfl | rfl | rfl | rfl | rfl | rfl
      · skip
        exact p806 tl0 el0 K0 M0
      · skip
        exact p807 tl0 el0 K0 M0
      · skip
        exact p808 tl0 el0 K0 M0
      · skip
        exact p809 tl0 el0 K0 M0
      · skip
        exact p810 tl0 el0 K0 M0
      · skip
        exact p811 tl0 el0 K0 M0
      · skip
        exact p812 tl0 el0 K0 M0
      · skip
        exact p813 tl0 el0 K0 M0
    · skip
      have g2 : c2 ∈ [(0, 0), (1, 1), (2, 2), (3, 3), (4, 4), (5, 5), (6, 6), (7, 7)] := h2
      simp only [List.mem_cons, List.not_mem_nil, or_false] at g2
      rcases g2 with rfl | rfl | rfl | rfl | rfl | rfl | rfl | rfl
      · skip
        exact p814 tl0 el0 K0 M0
      · skip
        exact p815 tl0 el0 K0 M0
      · skip
        exact p816 tl0 el0 K0 M0
      · skip
        exact p817 tl0 el0 K0 M0
      · skip
        exact p818 tl0 el0 K0 M0
      · skip
        exact p819 tl0 el0 K0 M0
      · skip
        exact p820 tl0 el0 K0 M0
      · skip
        exact p821 tl0 el0 K0 M0
    · skip
      have g2 : c2 ∈ [(0, 0), (1, 1), (2, 2), (3, 3), (4, 4), (5, 5), (6, 6), (7, 7)] := h2
      simp only [List.mem_cons, List.not_mem_nil, or_false] at g2
      rcases g2 with rfl | rfl | rfl | rfl | rfl | rfl | rfl | rfl
      · skip
        exact p822 tl0 el0 K0 M0
      · skip
        exact p823 tl0 el0 K0 M0
      · skip
        exact p824 tl0 el0 K0 M0
      · skip
        exact p825 tl0 el0 K0 M0
      · skip
        exact p826 tl0 el0 K0 M0
      · skip
        exact p827 tl0 el0 K0 M0
      · skip
        exact p828 tl0 el0 K0 M0
      · skip
        exact p829 tl0 el0 K0 M0
    · skip
      have g2 : c2 ∈ [(0, 0), (1, 1), (2, 2), (3, 3), (4, 4), (5, 5), (6, 6), (7, 7)] := h2
      simp only [List.mem_cons, List.not_mem_nil, or_false] at g2
      rcases g2 with rfl | rfl | rfl | rfl | rfl | rfl | rfl | rfl
      · skip
        exact p830 tl0 el0 K0 M0
      · skip
        exact p831 tl0 el0 K0 M0
      · skip
        exact p832 tl0 el0 K0 M0
      · skip
        exact p833 tl0 el0 K0 M0
      · skip
        exact p834 tl0 el0 K0 M0
      · skip
        exact p835 tl0 el0 K0 M0
      · skip
        exact p836 tl0 el0 K0 M0
      · skip
        exact p837 tl0 el0 K0 M0
    · skip
      have g2 : c2 ∈ [(0, 0), (1, 1), (2, 2), (3, 3), (4, 4), (5, 5), (6, 6), (7, 7)] := h2
      simp only [List.mem_cons, List.not_mem_nil, or_false] at g2
      rcases g2 with rfl | rfl | rfl | rfl | rfl | rfl | rfl | rfl
      · skip
        exact p838 tl0 el0 K0 M0
      · skip
        exact p839 tl0 el0 K0 M0
      · skip
        exact p840 tl0 el0 K0 M0
      · skip
        exact p841 tl0 el0 K0 M0
      · skip
        exact p842 tl0 el0 K0 M0
      · skip
        exact p843 tl0 el0 K0 M0
      · skip
        exact p844 tl0 el0 K0 M0
      · skip
        exact p845 tl0 el0 K0 M0
end Go.Proofs.Ytlljepgfecodoaa.answerAll
