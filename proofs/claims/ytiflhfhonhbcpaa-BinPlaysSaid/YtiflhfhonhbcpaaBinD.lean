/- slices.Delete of one box. -/
import Derived.Test.YtiflhfhonhbcpaaBinG
namespace Go.Proofs.Ytiflhfhonhbcpaa.Bin
open Go Go.RowKit Go.Proofs.Ytiflhfhonhbcpaa Go.Proofs.Ytiflhfhonhbcpaa.Crw Go.ChangeShapes Go.WideShapes Go.ChangeAt Go.Lib
set_option linter.unusedVariables false
set_option maxRecDepth 100000
theorem row_del {cur xs z : List Value} {n c i : Nat} (hs : cur.length = c * 4) (hx : cur.take (n * 4) = xs) (hi : i < n) (hc : n ≤ c) :
    let R := cur.take (i * 4) ++ xs.drop ((i + 1) * 4) ++ cur.drop (i * 4 + (xs.drop ((i + 1) * 4)).length)
    (R.take ((n - 1) * 4) ++ z ++ R.drop ((n - 1) * 4 + z.length)).take ((n - 1) * 4) = xs.take (i * 4) ++ xs.drop ((i + 1) * 4) := by
  intro R
  have hxl : xs.length = n * 4 := by rw [← hx, List.length_take]; omega
  have hdl : (xs.drop ((i + 1) * 4)).length = (n - (i + 1)) * 4 := by rw [List.length_drop, hxl]; omega
  have h1 : (cur.take (i * 4)).length = i * 4 := by rw [List.length_take]; omega
  have hRl : (R.take ((n - 1) * 4)).length = (n - 1) * 4 := by
    rw [List.length_take]
    show min _ (cur.take (i * 4) ++ xs.drop ((i + 1) * 4) ++ _).length = _
    simp only [List.length_append, h1, hdl]
    omega
  rw [List.append_assoc, List.take_append_of_le_length (by omega), List.take_of_length_le (by omega)]
  show (cur.take (i * 4) ++ xs.drop ((i + 1) * 4) ++ _).take ((n - 1) * 4) = _
  rw [List.take_append_of_le_length (by simp only [List.length_append, h1, hdl]; omega), List.take_of_length_le (by simp only [List.length_append, h1, hdl]; omega)]
  congr 1
  rw [← hx, List.take_take]
  congr 1
  omega
abbrev DelPost (B n i g c : Nat) (xs : List Value) (w : World) (e : Ending) (w' : World) : Prop := e = .returned (.slice (some ⟨g, 0, none⟩) (n - 1) c) ∧ w'.ownsRow B 70 4 (.slice (some ⟨g, 0, none⟩) (n - 1) c) (n - 1) (xs.take (i * 4) ++ xs.drop ((i + 1) * 4)) ∧ w.grownBy w' (some g)
set_option maxHeartbeats 8000000 in
theorem Delete_own {B n c i g : Nat} {xs : List Value} (w : World) (h : w.ownsRow B 70 4 (.slice (some ⟨g, 0, none⟩) n c) n xs) (hi : i < n) (h1x : ∀ u ∈ xs, u.oneCell' = true) :
    Calls Try.prog 61 #[.slice (some ⟨g, 0, none⟩) n c, .int .i64 i, .int .i64 ((i : Int) + 1)] w (DelPost B n i g c xs w) := by
  have t67 := Try.underlying67
  obtain ⟨i0, hi0, hz0, hzs, hzb⟩ := info_parts box_info
  have hxl : xs.length = n * 4 := h.1
  obtain ⟨cur, hB, hg, hnc, hc, hcs, hcx⟩ : ∃ cur, B ≤ g ∧ w.heap[g]? = some (.cells cur 70 (0, 0)) ∧ n ≤ c ∧ c ≤ maxLen ∧ cur.size = c * 4 ∧ cur.toList.take (n * 4) = xs := by
    rcases h.2 with ⟨h1, h2⟩ | ⟨g', cap, cur, h1, h2, h3, h4, h5, h6, h7⟩
    · cases h1
    · injection h1 with h1 _ h1c
      injection h1 with h1
      injection h1 with h1
      subst h1
      subst h1c
      exact ⟨cur, h2, h3, h4, h5, h6, h7⟩
  have hb : Blk w g 70 cur := hg
  obtain ⟨news, hnews⟩ : ∃ news, news = xs.drop ((i + 1) * 4) := ⟨_, rfl⟩
  have hdl : news.length = (n - (i + 1)) * 4 := by rw [hnews, List.length_drop, hxl]; omega
  have s2 : ∀ u ∈ news, u.oneCell' = true := fun u hu => h1x u (List.mem_of_mem_drop (by rw [← hnews]; exact hu))
  obtain ⟨A, hA, hsrc⟩ : ∃ A : Addr, (if c = i + 1 then some (⟨g, 0, none⟩ : Addr) else some ⟨g, (i + 1) * 4, none⟩) = some A ∧ Hid (∀ t u, news[t]? = some u → w.drew.cell? (A.add t) = some u) := by
    by_cases h : c = i + 1
    · refine ⟨⟨g, 0, none⟩, by simp [h], Lib.hid fun t u hu => ?_⟩
      have h0 : news.length = 0 := by rw [hdl]; omega
      rw [List.length_eq_zero_iff.1 h0] at hu
      simp at hu
    · refine ⟨⟨g, (i + 1) * 4, none⟩, by simp [h], Lib.hid fun t u hu => ?_⟩
      rw [Addr.add_lit]
      show w.cell? _ = _
      rw [cell_row hg]
      rw [hnews, List.getElem?_drop, ← hcx, List.getElem?_take] at hu
      split at hu
      · simpa using hu
      · cases hu
  obtain ⟨R1, hR1⟩ : ∃ R1 : Array Value, R1 = (cur.toList.take (i * 4) ++ news ++ cur.toList.drop (i * 4 + news.length)).toArray := ⟨_, rfl⟩
  have hR1s : R1.size = c * 4 := by rw [hR1]; simp [hdl, hcs]; omega
  obtain ⟨W1, hW1⟩ : ∃ W1, W1 = w.drew.setCells g (0 + i * 4) news := ⟨_, rfl⟩
  have hW1' : W1 = w.drew.setRow g R1 := by
    rw [hW1, hR1, Nat.zero_add]
    exact setCells_row (P := Try.prog) w.drew g (i * 4) _ news cur hg (by rw [hdl, hcs]; omega) s2
  have hg1 : W1.heap[g]? = some (.cells R1 70 (0, 0)) := by rw [hW1']; exact setRow_heap w.drew g cur R1 _ _ hg
  have s3 : Hid (∀ t, t < news.length → (w.drew.cell? ⟨g, 0 + i * 4 + t, none⟩).isSome = true ∧ w.drew.frozen? ⟨g, 0 + i * 4 + t, none⟩ = false) := Lib.hid (by
    intro t ht
    refine ⟨?_, hb.frozen _⟩
    show (w.cell? _).isSome = true
    rw [cell_row hg, Array.getElem?_eq_getElem (by omega)]
    rfl)
  obtain ⟨R2, hR2⟩ : ∃ R2 : Array Value, R2 = (R1.toList.take ((n - 1) * 4) ++ bxZ.cells.toList ++ R1.toList.drop ((n - 1) * 4 + bxZ.cells.toList.length)).toArray := ⟨_, rfl⟩
  have hin1 : i + (n - (i + 1)) = n - 1 := by omega
  have hcl : ∀ ty, (Builtin.clear_ #[67] ty #[.slice (some ⟨g, (i + (n - (i + 1))) * 4, none⟩) (n - (i + (n - (i + 1)))) (c - (i + (n - (i + 1))))]).run Try.prog W1 = .ok (.tuple #[]) (W1.setRow g R2) := fun ty => by
    rw [hR2, hin1, show n - (n - 1) = 1 by omega]
    exact run_clear_z W1 _ _ ty bxZ t67 (fun w => by kernel_rfl) (by decide) g _ _ 70 R1 hg1 (by rw [hR1s]; show _ + 4 ≤ _; omega) (by kernel_rfl)
  have hfin : DelPost B n i g c xs w (.returned (.slice (some ⟨g, 0, none⟩) (i + (n - (i + 1))) c)) (W1.setRow g R2) := by
    rw [hin1]
    refine ⟨rfl, ?_, ?_⟩
    · refine own_of_cells (cur := R2) hB (setRow_heap W1 g R1 R2 _ _ hg1) (by omega) hc (by rw [hR2]; simp [Value.cells, hR1s]; omega) ?_
      rw [hR2, hR1, hnews]
      exact row_del (by simpa using hcs) hcx hi hnc
    · have k1 : w.grownBy W1 (some g) := by rw [hW1']; exact (let k := grown_setRow w.drew g R1; ⟨k.os, k.tape, k.output, k.size, k.block⟩)
      have k2 := grown_setRow W1 g R2
      exact ⟨k2.os.trans k1.os, k2.tape.trans k1.tape, k2.output.trans k1.output, Nat.le_trans k1.size k2.size, fun k hk hne => (k2.block k (Nat.lt_of_lt_of_le hk k1.size) hne).trans (k1.block k hk hne)⟩
  have s1 : Hid (news.length = (n - (i + 1)) * 4) := Lib.hid hdl
  have S2 := Lib.hid s2
  have HFIN := Lib.hid hfin
  have hW : Hid (W1 = w.drew.setCells g (0 + i * 4) news) := Lib.hid hW1
  have mixed : Try.prog.follows .mixedOrders = true := by kernel_rfl
  obtain ⟨j, hjd⟩ : ∃ j, j = i + 1 := ⟨_, rfl⟩
  have hlt : i < j := by omega
  have hjn : j ≤ n := by omega
  have hic : i ≤ c := by omega
  have hjc : j ≤ c := by omega
  unfold maxLen at hc
  rw [show (i : Int) + 1 = (j : Int) by omega]
  rw [← hjd] at hA hcl s1
  have HFIN2 : Hid (DelPost B n i g c xs w (.returned (.slice (some ⟨g, 0, none⟩) (i + (n - j)) c)) (W1.setRow g R2)) := Lib.hid (by rw [hjd]; exact HFIN.out)
  clear HFIN hfin hW1 hW1' hR1 hR2 hg1 hg hb hcx hcs hR1s hnews hdl hxl h s2 hjd hin1 h1x
  go_enter Try.func61, Try.ntmps61
  go_wp2_with fail
  go_region_law_o (refine step_append_room rfl (.tmp 22) (.tmp 25) 67 rfl 70 i0 4 t67 hi0 hzs g 0 i c (by simp [Act.eval, Act.put]) A (n - j) (c - j) news (by simp [Act.eval, Act.put]) s1.out hsrc.out S2.out (by omega) s3.out ?_; rw [← hW.out])
  go_wp2
  go_ret
  exact HFIN2.out
end Go.Proofs.Ytiflhfhonhbcpaa.Bin
