/- slices.Insert of one box, ahead of others: there is no room. -/
import Derived.Test.YtiflhfhonhbcpaaBinJ
namespace Go.Proofs.Ytiflhfhonhbcpaa.Bin
open Go Go.RowKit Go.Proofs.Ytiflhfhonhbcpaa Go.Proofs.Ytiflhfhonhbcpaa.Crw Go.ChangeShapes Go.WideShapes Go.ChangeAt Go.Lib
set_option linter.unusedVariables false
set_option maxRecDepth 100000
theorem row_grow {xs vs T Z : List Value} {n i : Nat} (hx : xs.length = n * 4) (hi : i < n) (hv : vs.length = 4) (hZ : Z.length = (n + 1 - i) * 4) :
    let R := xs.take (i * 4) ++ Z ++ T
    let R2 := R.take (i * 4) ++ vs ++ R.drop (i * 4 + vs.length)
    (R2.take ((i + 1) * 4) ++ xs.drop (i * 4) ++ R2.drop ((i + 1) * 4 + (xs.drop (i * 4)).length)).take ((n + 1) * 4) = xs.take (i * 4) ++ vs ++ xs.drop (i * 4) := by
  intro R R2
  have h1 : (xs.take (i * 4)).length = i * 4 := by rw [List.length_take]; omega
  have hdl : (xs.drop (i * 4)).length = (n - i) * 4 := by rw [List.length_drop, hx]; omega
  have e1 : R.take (i * 4) = xs.take (i * 4) := by
    show (xs.take (i * 4) ++ Z ++ T).take (i * 4) = _
    rw [List.append_assoc, List.take_append_of_le_length (by omega), List.take_of_length_le (by omega)]
  have e2 : R2.take ((i + 1) * 4) = xs.take (i * 4) ++ vs := by
    show (R.take (i * 4) ++ vs ++ _).take ((i + 1) * 4) = _
    rw [e1, List.take_append_of_le_length (by simp [h1, hv]; omega), List.take_of_length_le (by simp [h1, hv]; omega)]
  rw [e2, List.take_append_of_le_length (by simp [h1, hdl, hv]; omega), List.take_of_length_le (by simp [h1, hdl, hv]; omega)]
set_option maxHeartbeats 8000000 in
theorem Insert_grow {B n c i vb g : Nat} {xs : List Value} {vs : Array Value} (w : World) (h : w.ownsRow B 70 4 (.slice (some ⟨g, 0, none⟩) n c) n xs) (hi : i < n) (hr : c < n + 1) (hn : n ≤ 1000) (hv : Blk w vb 70 vs) (hvs : vs.size = 4) (h1v : ∀ u ∈ vs.toList, u.oneCell' = true) (h1x : ∀ u ∈ xs, u.oneCell' = true) (hBw : B ≤ w.heap.size) :
    Calls Try.prog 58 #[.slice (some ⟨g, 0, none⟩) n c, .int .i64 i, .slice (some ⟨vb, 0, none⟩) 1 1] w (InsPost B n i (.slice (some ⟨g, 0, none⟩) n c) xs vs.toList w) := by
  have t67 := Try.underlying67
  have t3 := Try.underlying3
  obtain ⟨i0, hi0, hz0, hzs, hzb⟩ := info_parts box_info
  have hxl : xs.length = n * 4 := h.1
  obtain ⟨hnc, hcm⟩ : n ≤ c ∧ c ≤ maxLen := by
    obtain ⟨A', c', e, hc, hm⟩ := own_slice h
    injection e with e1 e2 e3
    subst e3
    exact ⟨hc, hm⟩
  have hcx : ∀ j v, xs[j]? = some v → w.cell? ⟨g, j, none⟩ = some v := fun j v hj => by
    have hj' : j < n * 4 := by have := (List.getElem?_eq_some_iff.1 hj).1; omega
    rw [h.cellAt j hj', hj]
  have hgw : g < w.heap.size := (h.lt g rfl).2
  have hdl : (xs.drop (i * 4)).length = (n - i) * 4 := by rw [List.length_drop, hxl]; omega
  have h1t : (xs.take (i * 4)).length = i * 4 := by rw [List.length_take, hxl]; omega
  have hold : (Builtin.firstCells i0.size i (.slice (some ⟨g, 0, none⟩) i c)).run Try.prog w.drew = .ok (xs.take (i * 4)).toArray w.drew := by
    rw [hzs]
    exact run_firstCells_some w.drew 4 i ⟨g, 0, none⟩ i c (xs.take (i * 4)) h1t (fun j v hj => by
      have e : ((⟨g, 0, none⟩ : Addr).add j) = ⟨g, j, none⟩ := by unfold Addr.add; split <;> simp_all
      rw [List.getElem?_take] at hj
      rw [e]
      split at hj
      · exact hcx j v hj
      · cases hj)
  obtain ⟨G, hG⟩ : ∃ G, G = grownCap w (n + 1) c 70 := ⟨_, rfl⟩
  have hGn : n + 1 ≤ G := by rw [hG]; exact grownCap_ge w _ _ _
  have hGm : G ≤ maxLen := by rw [hG]; exact grownCap_le_maxLen w (n + 1) c 70 (by unfold maxLen; omega)
  obtain ⟨R1, hR1⟩ : ∃ R1 : Array Value, R1 = (xs.take (i * 4)).toArray ++ Builtin.zeroCells bxZ.cells (n + 1 - i) ++ Builtin.zeroCells bxZ.cells (G - (n + 1)) := ⟨_, rfl⟩
  obtain ⟨gn, hgn⟩ : ∃ gn, gn = w.heap.size := ⟨_, rfl⟩
  obtain ⟨W1, hW1⟩ : ∃ W1, W1 = w.drew.alloc (.cells R1 70) := ⟨_, rfl⟩
  have hrz : ∀ ty, (Builtin.append_ #[67, 3] ty #[.slice (some ⟨g, 0, none⟩) i c, .int .i64 ((n : Int) + 1 - (i : Int))]).run Try.prog w = .ok (.slice (some ⟨gn, 0, none⟩) (n + 1) G) W1 := fun ty => by
    have hik : i + (n + 1 - i) = n + 1 := by omega
    have h := Lib.run_append_grow_zeros w 67 3 ty 70 i0 _ .i64 .i64 t67 t3 hi0 hz0 (some ⟨g, 0, none⟩) i c (xs.take (i * 4)) hold (n + 1 - i) (by omega) (by omega) (by omega) (by omega) (by rw [hzb]; omega) (by rw [hzb, hik]; exact growslice_fits hr (by omega))
    rw [hik, ← hG, ← hR1, ← hgn, ← hW1] at h
    rw [show (n : Int) + 1 - (i : Int) = ((n + 1 - i : Nat) : Int) by omega]
    exact h
  have hR1s : R1.size = G * 4 := by rw [hR1]; simp [size_zeroCells, h1t, Value.cells]; omega
  have hg1 : W1.heap[gn]? = some (.cells R1 70 (0, 0)) := by rw [hW1, hgn]; exact Blk.new w.drew _ _
  have hB1 : Below w.heap.size w W1 := by
    rw [hW1]
    exact ((Below.refl _ _).drew).alloc (Nat.le_refl _) _
  obtain ⟨R2, hR2⟩ : ∃ R2 : Array Value, R2 = (R1.toList.take (i * 4) ++ vs.toList ++ R1.toList.drop (i * 4 + vs.toList.length)).toArray := ⟨_, rfl⟩
  have hR2s : R2.size = G * 4 := by rw [hR2]; simp [hR1s, hvs]; omega
  have hcp1 : ∀ W : World, W.heap = W1.heap → ∀ ty dc, (Builtin.copy_ #[67, 67] ty #[.slice (some ⟨gn, i * 4, none⟩) (n + 1 - i) dc, .slice (some ⟨vb, 0, none⟩) 1 1]).run Try.prog W = .ok (goInt (Nat.min 1 (n + 1 - i))) (W.setRow gn R2) := fun W hW ty dc => by
    rw [hR2]
    refine run_copy_z W _ _ ty 70 4 gn (i * 4) _ dc ⟨vb, 0, none⟩ 1 1 R1 70 vs.toList t67 box_size (by rw [hW]; exact hg1) (by simp only [Array.length_toList, hvs, Nat.min_def]; split <;> omega) (fun j v hj => ?_) (by simp [hvs, hR1s]; omega) h1v
    have e : ((⟨vb, 0, none⟩ : Addr).add j) = ⟨vb, j, none⟩ := by unfold Addr.add; split <;> simp_all
    have hv1 : Blk W1 vb 70 vs := hv.below hB1 hv.lt
    rw [cell_of_heap hW, e, hv1.cell j]
    simpa using hj
  obtain ⟨R3, hR3⟩ : ∃ R3 : Array Value, R3 = (R2.toList.take ((i + 1) * 4) ++ xs.drop (i * 4) ++ R2.toList.drop ((i + 1) * 4 + (xs.drop (i * 4)).length)).toArray := ⟨_, rfl⟩
  have hR3s : R3.size = G * 4 := by rw [hR3]; simp [hR2s, hxl]; omega
  obtain ⟨W2, hW2⟩ : ∃ W2, W2 = W1.setRow gn R2 := ⟨_, rfl⟩
  have hg2 : W2.heap[gn]? = some (.cells R2 70 (0, 0)) := by rw [hW2]; exact setRow_heap W1 gn R1 R2 _ _ hg1
  have hcp2 : ∀ W : World, W.heap = W2.heap → ∀ ty dc sc, (Builtin.copy_ #[67, 67] ty #[.slice (some ⟨gn, (i + 1) * 4, none⟩) (n - i) dc, .slice (some ⟨g, i * 4, none⟩) (n - i) sc]).run Try.prog W = .ok (goInt (Nat.min (n - i) (n - i))) (W.setRow gn R3) := fun W hW ty dc sc => by
    rw [hR3]
    refine run_copy_z W _ _ ty 70 4 gn ((i + 1) * 4) _ dc ⟨g, i * 4, none⟩ _ sc R2 70 (xs.drop (i * 4)) t67 box_size (by rw [hW]; exact hg2) (by rw [hdl]; simp only [Nat.min_def]; split <;> omega) (fun j v hj => ?_) (by rw [hdl, hR2s]; omega) (fun v hv => h1x v (List.mem_of_mem_drop hv))
    have hc2 : W2.cell? ⟨g, i * 4 + j, none⟩ = w.cell? ⟨g, i * 4 + j, none⟩ := by
      refine World.cell?_of_block ?_
      show W2.heap[g]? = w.heap[g]?
      rw [hW2, setRow_other W1 gn g R2 (by omega)]
      exact hB1.block g hgw
    rw [cell_of_heap hW, Addr.add_lit, hc2]
    exact hcx _ v (by rwa [List.getElem?_drop] at hj)
  have hfin : ∀ W : World, W.heap = W2.heap → W.os = w.os → W.tape = w.tape → W.output = w.output → InsPost B n i (.slice (some ⟨g, 0, none⟩) n c) xs vs.toList w (.returned (.slice (some ⟨gn, 0, none⟩) (n + 1) G)) (W.setRow gn R3) := by
    intro W hW ho ht hp
    refine ⟨_, rfl, ?_, ?_, .inr ⟨gn, rfl, by omega⟩⟩
    · refine own_of_cells (cur := R3) (by omega) (setRow_heap W gn R2 R3 _ _ (by rw [hW]; exact hg2)) hGn hGm hR3s ?_
      rw [hR3, hR2, hR1]
      have := row_grow (xs := xs) (vs := vs.toList) (T := (Builtin.zeroCells bxZ.cells (G - (n + 1))).toList) (Z := (Builtin.zeroCells bxZ.cells (n + 1 - i)).toList) hxl hi (by simpa using hvs) (by simp [size_zeroCells, Value.cells])
      simpa using this
    · have k1 : w.grownBy W1 none := only_of_below hB1 none
      have s2 : W2.heap.size = W1.heap.size := by rw [hW2]; simp
      refine ⟨ho, ht, hp, ?_, fun k hk hne => ?_⟩
      · show w.heap.size ≤ (W.setRow gn R3).heap.size
        rw [setRow_size, hW, s2]
        exact hB1.size
      · have hkg : k ≠ gn := by omega
        show (W.setRow gn R3).heap[k]? = w.heap[k]?
        rw [setRow_other W gn k R3 hkg, hW, hW2, setRow_other W1 gn k R2 hkg]
        exact hB1.block k hk
  have hs1 : W1.os = w.os := hB1.os
  have hs2 : W1.tape = w.tape := hB1.tape
  have hs3 : W1.output = w.output := hB1.output
  have HFIN := Lib.hid hfin
  have HS := Lib.hid (And.intro hs1 (And.intro hs2 hs3))
  have HW2 := Lib.hid hW2
  unfold maxLen at hcm hGm
  clear hfin hs1 hs2 hs3 hW2 hR3 hR2 hR1 hG hW1 hg1 hg2 hB1 hold hcx hdl h1t hxl h hR1s hR2s hR3s hgn hi0 hz0 hzs hzb
  have hz2 : ¬ ((i : Int) = (n : Int)) := by omega
  have hz3 : (c : Int) < (n : Int) + 1 := by omega
  have hGi : ¬ (G = i) := by omega
  have hGim : ¬ (G = i + 1) := by omega
  have hci : ¬ (c = i) := by omega
  have hw1 : IntKind.i64.wrap ((i : Int) + 1) = (i : Int) + 1 := IntWalk.i64_in _ (by omega)
  have hb1 : (0 : Int) ≤ (i : Int) + 1 := by omega
  have hin : i ≤ n := by omega
  have htn : ((i : Int) + 1).toNat = i + 1 := by omega
  have hb3 : (i : Int) ≤ (n : Int) := by omega
  have mixed : Try.prog.follows .mixedOrders = true := by kernel_rfl
  go_enter Try.func58, Try.ntmps58
  go_wp2_with (first
    | (at_builtin; refine Lib.wpList_append_run _ rfl _ _ _ _ rfl _ _ rfl rfl _ _ (hrz _) ?_)
    | (at_builtin; refine wpList_copy_runZ _ rfl _ _ 67 67 rfl _ _ rfl rfl (hcp1 _ rfl _ _) ?_))
  rw [← HW2.out]
  go_region_law_o (refine step_copy_runZ rfl _ _ 67 67 rfl (.slice (some ⟨gn, (i + 1) * 4, none⟩) (n - i) (G - (i + 1))) (.slice (some ⟨g, i * 4, none⟩) (n - i) (c - i)) (by simp [Act.eval, Act.put]) (by simp [Act.eval, Act.put]) (hcp2 W2.drew rfl 3 (G - (i + 1)) (c - i)) ?_)
  go_wp2
  go_ret
  exact HFIN.out W2.drew rfl (by show W2.os = _; rw [HW2.out]; exact HS.out.1) (by show W2.tape = _; rw [HW2.out]; exact HS.out.2.1) (by show W2.output = _; rw [HW2.out]; exact HS.out.2.2)
/-- One box is put in. -/
theorem Insert_own {B n c i vb : Nat} {A : Option Addr} {xs : List Value} {vs : Array Value} (w : World) (h : w.ownsRow B 70 4 (.slice A n c) n xs) (hi : i ≤ n) (hn : n ≤ 1000) (hv : Blk w vb 70 vs) (hvs : vs.size = 4) (h1v : ∀ u ∈ vs.toList, u.oneCell' = true) (h1x : ∀ u ∈ xs, u.oneCell' = true) (hBw : B ≤ w.heap.size) (hne : (Value.slice A n c).ownBlock ≠ some vb) :
    Calls Try.prog 58 #[.slice A n c, .int .i64 i, .slice (some ⟨vb, 0, none⟩) 1 1] w (InsPost B n i (.slice A n c) xs vs.toList w) := by
  rcases Nat.lt_or_ge i n with h1 | h1
  · obtain ⟨g, rfl⟩ := own_some h (by omega)
    rcases Nat.lt_or_ge c (n + 1) with h2 | h2
    · exact Insert_grow w h h1 h2 hn hv hvs h1v h1x hBw
    · exact Insert_shift w h h1 h2 hv hvs h1v h1x (fun e => hne (by rw [e]; rfl))
  · obtain rfl : i = n := by omega
    exact Insert_end w h hn hv hvs h1v hBw
end Go.Proofs.Ytiflhfhonhbcpaa.Bin
