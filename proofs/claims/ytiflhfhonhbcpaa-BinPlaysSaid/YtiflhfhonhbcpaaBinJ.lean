/- slices.Insert of one box, ahead of others: there is room. -/
import Derived.Test.YtiflhfhonhbcpaaBinI
import Derived.IntWalk
namespace Go.Proofs.Ytiflhfhonhbcpaa.Bin
open Go Go.RowKit Go.Proofs.Ytiflhfhonhbcpaa Go.Proofs.Ytiflhfhonhbcpaa.Crw Go.ChangeShapes Go.WideShapes Go.ChangeAt Go.Lib
set_option linter.unusedVariables false
set_option maxRecDepth 100000
theorem cell_row {w : World} {g : Nat} {t : TypeId} {cur : Array Value} (hg : w.heap[g]? = some (.cells cur t (0, 0))) (j : Nat) : w.cell? ⟨g, j, none⟩ = cur[j]? := cell_of_row w g j cur t (0, 0) hg
theorem row_shift {cur xs : List Value} {vs : List Value} {n c i : Nat} (hs : cur.length = c * 4) (hx : cur.take (n * 4) = xs) (hi : i < n) (hr : n + 1 ≤ c) (hv : vs.length = 4) :
    ((((cur.take ((i + 1) * 4) ++ xs.drop (i * 4) ++ cur.drop ((i + 1) * 4 + (xs.drop (i * 4)).length))).take (i * 4) ++ vs ++ ((cur.take ((i + 1) * 4) ++ xs.drop (i * 4) ++ cur.drop ((i + 1) * 4 + (xs.drop (i * 4)).length))).drop (i * 4 + vs.length))).take ((n + 1) * 4) = xs.take (i * 4) ++ vs ++ xs.drop (i * 4) := by
  have hxl : xs.length = n * 4 := by rw [← hx, List.length_take]; omega
  have hdl : (xs.drop (i * 4)).length = (n - i) * 4 := by rw [List.length_drop, hxl]; omega
  generalize hT : cur.drop ((i + 1) * 4 + (xs.drop (i * 4)).length) = T
  have h1 : (cur.take ((i + 1) * 4)).length = (i + 1) * 4 := by rw [List.length_take]; omega
  have e1 : (cur.take ((i + 1) * 4) ++ xs.drop (i * 4) ++ T).take (i * 4) = xs.take (i * 4) := by
    rw [List.append_assoc, List.take_append_of_le_length (by omega), List.take_take, ← hx, List.take_take]
    congr 1
    omega
  have e2 : (cur.take ((i + 1) * 4) ++ xs.drop (i * 4) ++ T).drop (i * 4 + vs.length) = xs.drop (i * 4) ++ T := by
    rw [List.append_assoc, List.drop_append_of_le_length (by omega), List.drop_of_length_le (by omega), List.nil_append]
  rw [e1, e2, ← List.append_assoc, List.take_append_of_le_length (by simp [hxl, hdl, hv]; omega), List.take_of_length_le (by simp [hxl, hdl, hv]; omega)]
set_option maxHeartbeats 8000000 in
theorem Insert_shift {B n c i vb g : Nat} {xs : List Value} {vs : Array Value} (w : World) (h : w.ownsRow B 70 4 (.slice (some ⟨g, 0, none⟩) n c) n xs) (hi : i < n) (hr : n + 1 ≤ c) (hv : Blk w vb 70 vs) (hvs : vs.size = 4) (h1v : ∀ u ∈ vs.toList, u.oneCell' = true) (h1x : ∀ u ∈ xs, u.oneCell' = true) (hne : vb ≠ g) :
    Calls Try.prog 58 #[.slice (some ⟨g, 0, none⟩) n c, .int .i64 i, .slice (some ⟨vb, 0, none⟩) 1 1] w (InsPost B n i (.slice (some ⟨g, 0, none⟩) n c) xs vs.toList w) := by
  have t67 := Try.underlying67
  have hxl : xs.length = n * 4 := h.1
  obtain ⟨cur, hB, hg, hc, hcs, hcx⟩ : ∃ cur, B ≤ g ∧ w.heap[g]? = some (.cells cur 70 (0, 0)) ∧ c ≤ maxLen ∧ cur.size = c * 4 ∧ cur.toList.take (n * 4) = xs := by
    rcases h.2 with ⟨h1, h2⟩ | ⟨g', cap, cur, h1, h2, h3, h4, h5, h6, h7⟩
    · cases h1
    · injection h1 with h1 _ h1c
      injection h1 with h1
      injection h1 with h1
      subst h1
      subst h1c
      exact ⟨cur, h2, h3, h5, h6, h7⟩
  have hdl : (xs.drop (i * 4)).length = (n - i) * 4 := by rw [List.length_drop, hxl]; omega
  have hcell : ∀ j v, (xs.drop (i * 4))[j]? = some v → w.cell? ((⟨g, i * 4, none⟩ : Addr).add j) = some v := fun j v hj => by
    rw [Addr.add_lit, cell_row hg]
    rw [List.getElem?_drop, ← hcx, List.getElem?_take] at hj
    split at hj
    · simpa using hj
    · cases hj
  obtain ⟨R1, hR1⟩ : ∃ R1 : Array Value, R1 = (cur.toList.take ((i + 1) * 4) ++ xs.drop (i * 4) ++ cur.toList.drop ((i + 1) * 4 + (xs.drop (i * 4)).length)).toArray := ⟨_, rfl⟩
  have hR1s : R1.size = c * 4 := by rw [hR1]; simp [hxl, hcs]; omega
  obtain ⟨W1, hW1⟩ : ∃ W1, W1 = w.drew.setRow g R1 := ⟨_, rfl⟩
  have hg1 : W1.heap[g]? = some (.cells R1 70 (0, 0)) := by rw [hW1]; exact setRow_heap w.drew g cur R1 _ _ hg
  have hcp1 : ∀ ty dc sc, (Builtin.copy_ #[67, 67] ty #[.slice (some ⟨g, (i + 1) * 4, none⟩) (n - i) dc, .slice (some ⟨g, i * 4, none⟩) (n + 1 - i) sc]).run Try.prog w.drew = .ok (goInt (Nat.min (n + 1 - i) (n - i))) W1 := fun ty dc sc => by
    rw [hW1, hR1]
    exact run_copy_z w.drew _ _ ty 70 4 g ((i + 1) * 4) _ dc ⟨g, i * 4, none⟩ _ sc cur _ (xs.drop (i * 4)) t67 box_size hg (by rw [hdl]; simp only [Nat.min_def]; split <;> omega) hcell (by rw [hdl, hcs]; omega) (fun v hv => h1x v (List.mem_of_mem_drop hv))
  obtain ⟨R2, hR2⟩ : ∃ R2 : Array Value, R2 = (R1.toList.take (i * 4) ++ vs.toList ++ R1.toList.drop (i * 4 + vs.toList.length)).toArray := ⟨_, rfl⟩
  have hvc : ∀ j v, vs.toList[j]? = some v → W1.cell? ((⟨vb, 0, none⟩ : Addr).add j) = some v := fun j v hj => by
    have e : ((⟨vb, 0, none⟩ : Addr).add j) = ⟨vb, j, none⟩ := by unfold Addr.add; split <;> simp_all
    have hv1 : Blk W1 vb 70 vs := by rw [hW1]; exact (setRow_other w.drew g vb R1 hne).trans hv
    rw [e, hv1.cell j]
    simpa using hj
  have hcp2 : ∀ ty dc, (Builtin.copy_ #[67, 67] ty #[.slice (some ⟨g, i * 4, none⟩) (n + 1 - i) dc, .slice (some ⟨vb, 0, none⟩) 1 1]).run Try.prog W1 = .ok (goInt (Nat.min 1 (n + 1 - i))) (W1.setRow g R2) := fun ty dc => by
    rw [hR2]
    exact run_copy_z W1 _ _ ty 70 4 g (i * 4) _ dc ⟨vb, 0, none⟩ 1 1 R1 _ vs.toList t67 box_size hg1 (by simp only [Array.length_toList, hvs, Nat.min_def]; split <;> omega) hvc (by simp [hvs, hR1s]; omega) h1v
  have hov : ∀ lb cb, (callFunc 69 #[.slice (some ⟨vb, 0, none⟩) 1 1, .slice (some ⟨g, (i + 1) * 4, none⟩) lb cb]).run Try.prog w = .ok (.value (.bool false)) w := fun lb cb => by
    rw [run_callFunc_extern Try.func69 (by kernel_rfl) (by kernel_rfl) (by kernel_rfl) (e := Extern.SlicesOverlaps.overlaps #[67, 67] #[4]) (by kernel_rfl),
      Lib.run_overlaps_apart w 67 4 70 t67 4 (fun w => by kernel_rfl) ⟨vb, 0, none⟩ ⟨g, (i + 1) * 4, none⟩ 1 1 lb cb hne 70 70 vs.size cur.size (by unfold World.shape?; rw [show w.heap[vb]? = _ from hv]) (by unfold World.shape?; rw [hg]) (by rw [hcs]; omega) (hv.frozen 0) (hv.frozen _)]
    rfl
  have hfin : InsPost B n i (.slice (some ⟨g, 0, none⟩) n c) xs vs.toList w (.returned (.slice (some ⟨g, 0, none⟩) (n + 1) c)) (W1.setRow g R2) := by
    refine ⟨_, rfl, ?_, ?_, .inl rfl⟩
    · refine own_of_cells (cur := R2) hB (setRow_heap W1 g R1 R2 _ _ hg1) hr hc (by rw [hR2]; simp [hvs, hR1s]; omega) ?_
      rw [hR2, hR1]
      exact row_shift (by simpa using hcs) hcx hi hr (by simpa using hvs)
    · have k1 : w.grownBy W1 (some g) := by rw [hW1]; exact (let k := grown_setRow w.drew g R1; ⟨k.os, k.tape, k.output, k.size, k.block⟩)
      have k2 := grown_setRow W1 g R2
      exact ⟨k2.os.trans k1.os, k2.tape.trans k1.tape, k2.output.trans k1.output, Nat.le_trans k1.size k2.size, fun k hk hne => (k2.block k (Nat.lt_of_lt_of_le hk k1.size) hne).trans (k1.block k hk hne)⟩
  have hw1 : IntKind.i64.wrap ((i : Int) + 1) = (i : Int) + 1 := IntWalk.i64_in _ (by unfold maxLen at hc; omega)
  have hb1 : (0 : Int) ≤ (i : Int) + 1 := by omega
  have hin : i ≤ n := by omega
  have htn : ((i : Int) + 1).toNat = i + 1 := by omega
  have hb2 : ¬ (c = i + 1) := by omega
  have hb3 : (i : Int) ≤ (n : Int) + 1 := by omega
  have hb4 : ¬ (c = i) := by omega
  have hz2 : ¬ ((i : Int) = (n : Int)) := by omega
  have mixed : Try.prog.follows .mixedOrders = true := by kernel_rfl
  unfold maxLen at hc
  have HFIN := Lib.hid hfin
  clear hfin hvc hcell hR1 hR2 hW1 hg1 hg hdl hxl hcx hcs hR1s h
  go_enter Try.func58, Try.ntmps58
  go_wp2_with (simp only [hov])
  go_region_law_o (refine step_copy_runZ rfl _ _ 67 67 rfl _ _ (by simp [Act.eval, Act.put]) (by simp [Act.eval, Act.put]) (hcp1 _ _ _) ?_)
  go_wp2_with (at_builtin; refine wpList_copy_runZ _ rfl _ _ 67 67 rfl _ _ rfl rfl (hcp2 _ _) ?_)
  go_ret
  exact HFIN.out
end Go.Proofs.Ytiflhfhonhbcpaa.Bin
